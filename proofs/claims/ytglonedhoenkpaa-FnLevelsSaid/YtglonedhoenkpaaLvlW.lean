/- spec's ClearLevels. -/
import Derived.Test.YtglonedhoenkpaaLvlV
import Derived.Test.YtglonedhoenkpaaTailH
import Derived.Laws.Small
import Derived.Deep.QuietTactic
import Derived.BigQuiet
import Derived.Deep.RegionHeld3
import Derived.Deep.CutRange
import Derived.Deep.CutBlock
namespace Go.Proofs.Ytglonedhoenkpaa.lvlw
open Go.RowKit Go.Proofs.Ytglonedhoenkpaa.ints Go.Proofs.Ytglonedhoenkpaa.lst Go.Proofs.Ytglonedhoenkpaa.in_ Go.Proofs.Ytglonedhoenkpaa.ats Go.Proofs.Ytglonedhoenkpaa.putq Go.Proofs.Ytglonedhoenkpaa.vel Go.Proofs.Ytglonedhoenkpaa.lvl Go.Proofs.Ytglonedhoenkpaa.lvle Go.Proofs.Ytglonedhoenkpaa.lvls Go.Proofs.Ytglonedhoenkpaa.lvlt Go.Proofs.Ytglonedhoenkpaa.lvlu Go.Proofs.Ytglonedhoenkpaa.lvlv Go.Proofs.Ytglonedhoenkpaa.tailh
set_option linter.unusedVariables false
set_option linter.unusedSimpArgs false

theorem cells_len (xs : List Int) : (cellsI xs).length = xs.length := by unfold cellsI; rw [List.length_map]
section
variable {P : Program}
theorem run_none (base : Nat) (t ty e : TypeId) (i : TypeInfo) (size c : Nat) (ht : P.underlying t = some (.slice e)) (hi : P.info? e = some i)
    (w : World) (v : Value) (n : Nat) (xs : List Value) (hown : w.ownsRow base e size v n xs) :
    (Builtin.append_ #[t, t] ty #[v, .slice none 0 c]).run P w = .ok v w := by
  rcases hown.2 with ⟨rfl, rfl⟩ | ⟨g, cap, cur, rfl, _, _, hnc, _⟩
  · simp [Builtin.append_, run_underlying ht, sizeOf, typeInfo, hi, Builtin.lenOf, Builtin.firstCells]
  · simp [Builtin.append_, run_underlying ht, sizeOf, typeInfo, hi, Builtin.lenOf, Builtin.firstCells, hnc, storeCells]
theorem step_append_none {ops : Array Oper} {o : Oper} {a : Act} {w : World} {K : Act → World → Prop} {Q : Exit → Act → World → Prop} {E : Prop} (hgd : o.guard = none) (s x : Operand) (t : TypeId)
    (ho : o.op = .call { callee := .builtin .append, args := #[s, x], argTypes := #[t, t] })
    (base : Nat) (e : TypeId) (i : TypeInfo) (size c : Nat) (ht : P.underlying t = some (.slice e)) (hi : P.info? e = some i)
    (v : Value) (n : Nat) (xs : List Value) (hs : a.eval s = v) (hown : w.ownsRow base e size v n xs) (hx : a.eval x = .slice none 0 c)
    (h : K (a.put o.dst v) w) :
    if Region.wanted o (yielded ops a.tmps) = true then Oper.wp P o a w K Q else E := by
  have hw : Region.wanted o (yielded ops a.tmps) = true := by simp [Region.wanted, hgd]
  rw [if_pos hw]
  have hr := run_none (P := P) base t o.type e i size c ht hi w v n xs hown
  unfold Oper.wp execOp
  simp only [ho, resolve, invoke, builtin, Sem.run_bind, Sem.run_pure, Result.andThen_ok, List.map_toArray, List.map_cons, List.map_nil, hs, hx, hr]
  exact h
/-- append of a list that may be nil, at a step of a region that draws. -/
theorem step_append_rd {ops : Array Oper} {o : Oper} {a : Act} {w : World} {K : Act → World → Prop} {Q : Exit → Act → World → Prop} {E : Prop} (hgd : o.guard = none) (s x : Operand) (t : TypeId)
    (ho : o.op = .call { callee := .builtin .append, args := #[s, x], argTypes := #[t, t] })
    (base : Nat) (e : TypeId) (i : TypeInfo) (z : Value) (bytes : Nat) (ht : P.underlying t = some (.slice e)) (hi : P.info? e = some i) (hz : i.zero = some z)
    (hsize : i.size = 5) (hby : i.bytes = bytes) (hzs : z.cells.size = 5)
    (v : Value) (n : Nat) (xs : List Value) (hs : a.eval s = v) (hown : w.ownsRow base e 5 v n xs)
    {B m c : Nat} {A : Option Addr} {ns : List Int} (hx : a.eval x = .slice A m c) (hr : RdZ 5 w B A m ns)
    (h63 : n + m ≤ maxLen) (hbytes : (n + m) * bytes ≤ 140737488355328) (hbase : base ≤ w.heap.size)
    (h : ∀ v' w', w'.ownsRow base e 5 v' (n + m) (xs ++ cellsI ns) → w.grownBy w' v.ownBlock → (v'.ownBlock = v.ownBlock ∨ v'.ownBlock = some w.heap.size) → K (a.put o.dst v') w') :
    if Region.wanted o (yielded ops a.tmps) = true then Oper.wp P o a w K Q else E := by
  cases A with
  | none =>
    obtain rfl : m = 0 := by
      rcases Nat.eq_zero_or_pos m with h0 | h0
      · exact h0
      · obtain ⟨b, o, e, _⟩ := hr.2 h0; cases e
    have hz : ns = [] := List.eq_nil_of_length_eq_zero (by rw [hr.1])
    subst hz
    exact step_append_none hgd s x t ho base e i 5 c ht hi v n xs hs hown hx (h v w (by rw [Nat.add_zero, show cellsI [] = [] from rfl, List.append_nil]; exact hown) (grown_refl _ _) (Or.inl rfl))
  | some ad =>
    refine step_append_sz hgd s x t ho base e i z 5 bytes ht hi hz hsize hby hzs (by decide) v n xs hs hown ad m c (cellsI ns) hx (by rw [cells_len]; exact hr.1) (fun j u hu => ?_) (ints_one _) h63 hbytes hbase h
    obtain ⟨x, hx', rfl⟩ := cellsI_at hu
    rcases Nat.eq_zero_or_pos m with h0 | h0
    · have := (List.getElem?_eq_some_iff.1 hx').1
      rw [hr.1, h0] at this
      omega
    · obtain ⟨b', o', e, _, hc⟩ := hr.2 h0
      obtain rfl : ad = ⟨b', o', none⟩ := by injection e
      rw [Addr.add_lit]
      exact hc j x hx'
end

theorem at_own {T : TypeId} {cs : Array Value} {w W W' : World} {b B e s n : Nat} {v : Value} {xs : List Value} (h : AtS T cs w W b) (ho : W.ownsRow B e s v n xs) (hg : W.grownBy W' v.ownBlock) (hne : ∀ g, v.ownBlock = some g → g ≠ b) (hB : w.heap.size ≤ B) : AtS T cs w W' b :=
  ⟨h.1.grown hg h.1.size (fun g e => Nat.le_trans hB (own_.row_ge ho g e)), h.2.1, Nat.lt_of_lt_of_le h.2.2.1 hg.size, (hg.block _ h.2.2.1 (fun e => hne b e.symm rfl)).trans h.2.2.2⟩
theorem bl_own {V W W' : World} {e s n : Nat} {v : Value} {xs : List Value} (h : Below V.heap.size V W) (ho : W.ownsRow V.heap.size e s v n xs) (hg : W.grownBy W' v.ownBlock) : Below V.heap.size V W' := h.grown hg h.size (own_.row_ge ho)
theorem ne_own {W : World} {v v' : Value} {b : Nat} (hb : b < W.heap.size) (hne : ∀ g, v.ownBlock = some g → g ≠ b) (h : v'.ownBlock = v.ownBlock ∨ v'.ownBlock = some W.heap.size) : ∀ g, v'.ownBlock = some g → g ≠ b := fun g e => by
  rcases h with h | h
  · exact hne g (h.symm.trans e)
  · rw [h] at e; injection e with e; omega
theorem own_new {V W : World} (h : Below V.heap.size V W) (T : TypeId) : (W.alloc (.cells #[] T)).ownsRow V.heap.size T 5 (.slice (some ⟨W.heap.size, 0, none⟩) 0 0) 0 [] := own_.own_base (own_emptyZ W T 5) h.size
theorem at_old {T : TypeId} {cs : Array Value} {w W : World} {b : Nat} (h : AtS T cs w W b) : b < W.heap.size := h.2.2.1
theorem rd_take {w : World} {B n k : Nat} {A : Option Addr} {zs : List Int} (h : RdZ 5 w B A n zs) (hk : k ≤ n) : RdZ 5 w B A k (zs.take (k * 5)) :=
  ⟨by rw [List.length_take, h.1]; omega, fun h0 => by
    obtain ⟨b, o, e, hb, hc⟩ := h.2 (by omega)
    refine ⟨b, o, e, hb, fun j x hx => hc j x ?_⟩
    have hj := (List.getElem?_eq_some_iff.1 hx).1
    rw [List.length_take] at hj
    rwa [List.getElem?_take, if_pos (by omega)] at hx⟩
theorem rd_drop {w : World} {B n k c : Nat} {A : Option Addr} {zs : List Int} (h : RdZ 5 w B A n zs) (hk : k ≤ n) (hc : n ≤ c) : RdZ 5 w B (if c = k then A else Option.map (fun x => x.add (k * 5)) A) (n - k) (zs.drop (k * 5)) :=
  ⟨by rw [List.length_drop, h.1]; omega, fun h0 => by
    obtain ⟨b, o, e, hb, hc'⟩ := h.2 (by omega)
    refine ⟨b, o + k * 5, by rw [if_neg (by omega), e, Option.map_some, Addr.add_lit], hb, fun j x hx => ?_⟩
    rw [List.getElem?_drop] at hx
    rw [Nat.add_assoc]
    exact hc' (k * 5 + j) x hx⟩
theorem rd_dropS {w : World} {B n k c b o : Nat} {zs : List Int} (h : RdZ 5 w B (some ⟨b, o, none⟩) n zs) (hk : k ≤ n) (hc : n ≤ c) : RdZ 5 w B (if c = k then some (⟨b, o, none⟩ : Addr) else some (⟨b, o + k * 5, none⟩ : Addr)) (n - k) (zs.drop (k * 5)) :=
  ⟨by rw [List.length_drop, h.1]; omega, fun h0 => by
    obtain ⟨b', o', e, hb, hc'⟩ := h.2 (by omega)
    refine ⟨b', o' + k * 5, by injection e with e; injection e with e1 e2; rw [if_neg (by omega), e1, e2], hb, fun j x hx => ?_⟩
    rw [List.getElem?_drop] at hx
    rw [Nat.add_assoc]
    exact hc' (k * 5 + j) x hx⟩
theorem row_done {zs : List Int} {k : Nat} {a l u f t : Int} : cellsI (zs.take (k * 5)) ++ [.int .i64 a, .int .i64 l, .int .i64 u, .int .i64 f, .int .i64 t] ++ cellsI (zs.drop (k * 5)) = cellsI (inR zs k a l u f t) := by
  unfold inR cellsI
  rw [List.map_append, List.map_append]; rfl
theorem gt_is {zs : List Int} {a f : Int} {k : Nat} : gtK zs a f k = (decide (a < fld 5 zs k 0) || (decide (fld 5 zs k 0 = a) && decide (f < fld 5 zs k 3))) := rfl

set_option maxRecDepth 100000 in
set_option maxHeartbeats 4000000 in
theorem clearLevels (zs : List Int) (a l u f t : Int) (A : Option Addr) (n c : Nat) (w : World) (hc : n ≤ c) (hn : n ≤ 1048576) (h1 : RdZ 5 w w.heap.size A n zs) :
    Calls Try.prog 17 #[.slice A n c, .agg #[.int .i64 a, .int .i64 l, .int .i64 u, .int .i64 f, .int .i64 t]] w fun e w' => ∃ v, e = .returned (.tuple #[v, .bool (ciB zs n a l u f t)]) ∧ w'.ownsRow w.heap.size 26 5 v (ciN zs n a l u f t) (cellsI (ciV zs n a l u f t)) ∧ Below w.heap.size w w' := by
  have S0 := Lib.hid (newS 26 #[.int .i64 a, .int .i64 l, .int .i64 u, .int .i64 f, .int .i64 t] w)
  have T0 := Lib.hid (fun (W : World) (hb : Below w.heap.size w W) => good18 zs A n c W (by omega) (h1.next hb))
  cases hq0 : cvB zs n
  · rw [hq0] at T0
    have HE := Lib.hid (show ciB zs n a l u f t = false by rw [← ci_spec h1.1, hq0]; rfl)
    clear h1 hq0
    go_enter Try.func17, Try.ntmps17
    go_wp2_with fail
    generalize (w.alloc (.cells #[.int .i64 a, .int .i64 l, .int .i64 u, .int .i64 f, .int .i64 t] 26)) = W0 at *
    have AN0 := Lib.hid (Below.refl W0.heap.size W0)
    refine (T0.out W0 (S0.out.1.trans (AN0.out.mono S0.out.1.size))).mono ?_
    rintro e V0 ⟨rfl, hb⟩
    have AN1 := Lib.hid (AN0.out.trans (hb.mono AN0.out.size))
    clear hb
    have HV := Lib.hid (ciV_no HE.out)
    have HN := Lib.hid (ciN_no HE.out)
    have BX := Lib.hid (S0.out.1.trans (AN1.out.mono S0.out.1.size))
    have OX := Lib.hid (own_.own_base (own_emptyZ V0 26 5) BX.out.size)
    have BY := Lib.hid (BX.out.alloc BX.out.size (.cells #[] 26))
    go_wp2_with fail
    go_ret2
    exact ⟨_, by rw [HE.out]; rfl, by rw [HV.out, HN.out]; exact OX.out, BY.out⟩
  rw [hq0] at T0
  have HCV := Lib.hid hq0
  have HR := Lib.hid h1
  have HL := Lib.hid h1.1
  have HC := Lib.hid hc
  clear hq0 h1
  obtain ⟨i0, hi, hz0, hz1, hz2⟩ := info_parts infoS
  go_enter Try.func17, Try.ntmps17
  go_wp2_with fail
  generalize (w.alloc (.cells #[.int .i64 a, .int .i64 l, .int .i64 u, .int .i64 f, .int .i64 t] 26)) = W0 at *
  have AN0 := Lib.hid (Below.refl W0.heap.size W0)
  refine (T0.out W0 (S0.out.1.trans (AN0.out.mono S0.out.1.size))).mono ?_
  rintro e V0 ⟨rfl, hb⟩
  have AN1 := Lib.hid (AN0.out.trans (hb.mono AN0.out.size))
  clear hb
  have S1 := Lib.hid (S0.out.old AN1.out)
  clear S0
  go_wp2_with fail
  go_loopw [6] (fun i wr => ∃ k : Nat, k ≤ n ∧ i = .int .i64 k ∧ Below V0.heap.size V0 wr ∧ spK zs a f n = spK zs a f k) (fun i _ => (intOf i).toNat)
  case atStart => exact ⟨n, Nat.le_refl _, rfl, Below.refl _ _, rfl⟩
  case round =>
    obtain ⟨k, hk, rfl, hb, hsp⟩ := hrel
    have SB := Lib.hid (S1.out.old hb)
    have HB0 := Lib.hid hb
    have c00 : wr.cell? ⟨w.heap.size, 0, none⟩ = some (.int .i64 a) := SB.out.cell 0
    have c01 : wr.cell? ⟨w.heap.size, 1, none⟩ = some (.int .i64 l) := SB.out.cell 1
    have c02 : wr.cell? ⟨w.heap.size, 2, none⟩ = some (.int .i64 u) := SB.out.cell 2
    have c03 : wr.cell? ⟨w.heap.size, 3, none⟩ = some (.int .i64 f) := SB.out.cell 3
    have c04 : wr.cell? ⟨w.heap.size, 4, none⟩ = some (.int .i64 t) := SB.out.cell 4
    rcases Nat.eq_zero_or_pos k with h0 | h0
    · have HPL := Lib.hid (show spK zs a f n = k by rw [hsp, h0]; rfl)
      have HKN := Lib.hid hk
      have hk1 : decide ((0 : Int) < (k : Int)) = false := decide_eq_false (by omega)
      have hk2 : decide (0 < k) = false := decide_eq_false (by omega)
      clear hb hsp h0 c01 c02 c04 c00 c03
      go_upto_region 4 with fail
      refine wp_region_quiet_below (by kernel_rfl) (by kernel_rfl) ?_
      repeat (
        with_reducible refine wpQuiet_step (fun K hK => ?_)
        go_simp
        refine hK _ ?_; clear hK K)
      with_reducible refine wpQuiet_nil ?_
      intro _ hw'
      obtain ⟨⟨dq, osq⟩, hw''⟩ := hw'
      subst hw''
      have hbl := (below_regrown wr dq osq)
      generalize Sort.grow (redrawn wr dq) osq = VV at *
      have B3 := Lib.hid (HB0.out.trans (hbl.mono HB0.out.size))
      clear hbl
      have HNO := Lib.hid (fun (h : cvB (inR zs k a l u f t) (n + 1) = false) => show ciB zs n a l u f t = false by rw [← ci_spec HL.out, HPL.out, h, Bool.and_false])
      have HYE := Lib.hid (fun (h : cvB (inR zs k a l u f t) (n + 1) = true) => show ciB zs n a l u f t = true ∧ k = ldI zs n a f from by
        have h1 : ciB zs n a l u f t = true := by rw [← ci_spec HL.out, HPL.out, h, HCV.out]; rfl
        exact ⟨h1, HPL.out.symm.trans (ci_place HL.out h1)⟩)
      have k0 : (0 : Int) ≤ (k : Int) := Int.natCast_nonneg _
      have k1 : (k : Int) ≤ (c : Int) := by have := HKN.out; have := HC.out; omega
      have k2 : (k : Int) ≤ (n : Int) := by have := HKN.out; omega
      have k3 : (n : Int) ≤ (c : Int) := by have := HC.out; omega
      have S3 := Lib.hid (S1.out.old B3.out)
      have HVV := Lib.hid S3.out.1
      go_upto_region 6 with fail
      have CSx := Lib.hid (show ∀ WZ : World, Below VV.heap.size VV WZ → (World.cell? WZ ⟨w.heap.size, 0, none⟩ = some (.int .i64 a) ∧ World.cell? WZ ⟨w.heap.size, 1, none⟩ = some (.int .i64 l) ∧ World.cell? WZ ⟨w.heap.size, 2, none⟩ = some (.int .i64 u) ∧ World.cell? WZ ⟨w.heap.size, 3, none⟩ = some (.int .i64 f) ∧ World.cell? WZ ⟨w.heap.size, 4, none⟩ = some (.int .i64 t)) from fun WZ hz => ⟨(S3.out.old hz).cell 0, (S3.out.old hz).cell 1, (S3.out.old hz).cell 2, (S3.out.old hz).cell 3, (S3.out.old hz).cell 4⟩)
      have HB := Lib.hid ((Below.refl VV.heap.size VV).drew)
      have HSa := Lib.hid (CSx.out _ HB.out)
      refine wp_region_tail (S := fun w' => World.cell? w' ⟨w.heap.size, 0, none⟩ = some (.int .i64 a) ∧ World.cell? w' ⟨w.heap.size, 1, none⟩ = some (.int .i64 l) ∧ World.cell? w' ⟨w.heap.size, 2, none⟩ = some (.int .i64 u) ∧ World.cell? w' ⟨w.heap.size, 3, none⟩ = some (.int .i64 f) ∧ World.cell? w' ⟨w.heap.size, 4, none⟩ = some (.int .i64 t)) 12 (by kernel_rfl) HSa.out (fun hHeld => ?_)
      generalize VV.drew = F0 at *
      try simp only [Act.put, List.getElem_toArray, List.getElem_cons_succ, List.getElem_cons_zero, List.setIfInBounds_toArray, List.set_cons_succ, List.set_cons_zero]
      refine wpAnyE_take (i := 1) (v := ?vt1_1) rfl (by decide +kernel) (fun _ _ _ h => h) (Or.inl ⟨by first | rfl | kernel_rfl, ?ht1_1⟩) (by assumption) ?rt1_1
      case ht1_1 =>
        intro wS hSw
        obtain ⟨h0, h1, h2, h3, h4⟩ := hSw
        go_simp
        try with_reducible rfl
      try simp only [Act.put, List.getElem_toArray, List.getElem_cons_succ, List.getElem_cons_zero, List.setIfInBounds_toArray, List.set_cons_succ, List.set_cons_zero]
      refine wpAnyE_take (i := 2) (v := ?vt1_2) rfl (by decide +kernel) (fun _ _ _ h => h) (Or.inl ⟨by first | rfl | kernel_rfl, ?ht1_2⟩) (by assumption) ?rt1_2
      case ht1_2 =>
        intro wS hSw
        obtain ⟨h0, h1, h2, h3, h4⟩ := hSw
        go_simp
        try with_reducible rfl
      try simp only [Act.put, List.getElem_toArray, List.getElem_cons_succ, List.getElem_cons_zero, List.setIfInBounds_toArray, List.set_cons_succ, List.set_cons_zero]
      refine wpAnyE_take (i := 3) (v := ?vt1_3) rfl (by decide +kernel) (fun _ _ _ h => h) (Or.inl ⟨by first | rfl | kernel_rfl, ?ht1_3⟩) (by assumption) ?rt1_3
      case ht1_3 =>
        intro wS hSw
        obtain ⟨h0, h1, h2, h3, h4⟩ := hSw
        go_simp
        try with_reducible rfl
      try simp only [Act.put, List.getElem_toArray, List.getElem_cons_succ, List.getElem_cons_zero, List.setIfInBounds_toArray, List.set_cons_succ, List.set_cons_zero]
      refine wpAnyE_take (i := 5) (v := ?vt1_5) rfl (by decide +kernel) (fun _ _ _ h => h) (Or.inl ⟨by first | rfl | kernel_rfl, ?ht1_5⟩) (by assumption) ?rt1_5
      case ht1_5 =>
        intro wS hSw
        obtain ⟨h0, h1, h2, h3, h4⟩ := hSw
        go_simp
        try with_reducible rfl
      try simp only [Act.put, List.getElem_toArray, List.getElem_cons_succ, List.getElem_cons_zero, List.setIfInBounds_toArray, List.set_cons_succ, List.set_cons_zero]
      refine wpAnyE_take (i := 8) (v := ?vt1_8) rfl (by decide +kernel) (fun _ _ _ h => h) (Or.inl ⟨by first | rfl | kernel_rfl, ?ht1_8⟩) (by assumption) ?rt1_8
      case ht1_8 =>
        intro wS hSw
        obtain ⟨h0, h1, h2, h3, h4⟩ := hSw
        go_simp
        try with_reducible rfl
      try simp only [Act.put, List.getElem_toArray, List.getElem_cons_succ, List.getElem_cons_zero, List.setIfInBounds_toArray, List.set_cons_succ, List.set_cons_zero]
      refine wpAnyE_take (i := 9) (v := ?vt1_9) rfl (by decide +kernel) (fun _ _ _ h => h) (Or.inl ⟨by first | rfl | kernel_rfl, ?ht1_9⟩) (by assumption) ?rt1_9
      case ht1_9 =>
        intro wS hSw
        obtain ⟨h0, h1, h2, h3, h4⟩ := hSw
        go_simp
        try with_reducible rfl
      try simp only [Act.put, List.getElem_toArray, List.getElem_cons_succ, List.getElem_cons_zero, List.setIfInBounds_toArray, List.set_cons_succ, List.set_cons_zero]
      refine wpAnyE_take (i := 10) (v := ?vt1_10) rfl (by decide +kernel) (fun _ _ _ h => h) (Or.inl ⟨by first | rfl | kernel_rfl, ?ht1_10⟩) (by assumption) ?rt1_10
      case ht1_10 =>
        intro wS hSw
        obtain ⟨h0, h1, h2, h3, h4⟩ := hSw
        go_simp
        try with_reducible rfl
      try simp only [Act.put, List.getElem_toArray, List.getElem_cons_succ, List.getElem_cons_zero, List.setIfInBounds_toArray, List.set_cons_succ, List.set_cons_zero]
      refine wpAnyE_ready (rs := [0, 6]) (by kernel_rfl) (by simp) ?_
      refine AllReadyE.cons (i := 0) rfl (by decide) (fun K hK => ?_) (AllReadyE.cons (i := 6) rfl (by decide) (fun K hK => ?_) AllReadyE.nil)
      · have OL := Lib.hid (own_new HB.out 26)
        have HB := Lib.hid (HB.out.alloc HB.out.size (.cells #[] 26))
        go_simp
        generalize F0.alloc (.cells #[] 26) = x1 at *
        generalize F0.heap.size = g0 at *
        refine hK.out _ _ (CSx.out x1 HB.out) (fun hHeld => ?_)
        clear hK K
        try simp only [Act.put, List.getElem_toArray, List.getElem_cons_succ, List.getElem_cons_zero, List.setIfInBounds_toArray, List.set_cons_succ, List.set_cons_zero]
        refine wpAnyE_ready (rs := [4, 6]) (by kernel_rfl) (by simp) ?_
        refine AllReadyE.cons (i := 4) rfl (by decide) (fun K hK => ?_) (AllReadyE.cons (i := 6) rfl (by decide) (fun K hK => ?_) AllReadyE.nil)
        · refine step_append_rd rfl (.tmp 51) (.tmp 54) 24 rfl VV.heap.size 26 i0 (.agg #[.int .i64 0, .int .i64 0, .int .i64 0, .int .i64 0, .int .i64 0]) 40 Try.underlying24 hi hz0 hz1 hz2 rfl (.slice (some ⟨g0, 0, none⟩) 0 0) 0 [] rfl OL.out (B := w.heap.size) (A := A) (m := k) (c := c) (ns := zs.take (k * 5)) rfl (rd_take (HR.out.below (HVV.out.trans (HB.out.mono HVV.out.size)) (Nat.le_refl _)) HKN.out) (by unfold maxLen; have := HKN.out; omega) (by have := HKN.out; omega) HB.out.size ?_
          intro vx2 x2 oA gA nA
          rw [Nat.zero_add, List.nil_append] at oA
          have HB := Lib.hid (bl_own HB.out OL.out gA)
          have OL := Lib.hid oA
          clear oA gA nA
          refine hK.out _ _ (CSx.out x2 HB.out) (fun hHeld => ?_)
          clear hK K
          try simp only [Act.put, List.getElem_toArray, List.getElem_cons_succ, List.getElem_cons_zero, List.setIfInBounds_toArray, List.set_cons_succ, List.set_cons_zero]
          refine wpAnyE_ready (rs := [6]) (by kernel_rfl) (by simp) ?_
          refine AllReadyE.cons (i := 6) rfl (by decide) (fun K hK => ?_) AllReadyE.nil
          have SX := Lib.hid (lvle.at_next 26 #[.int .i64 a, .int .i64 l, .int .i64 u, .int .i64 f, .int .i64 t] HB.out)
          have NE := Lib.hid (fun g e => show g ≠ x2.heap.size from Nat.ne_of_lt (own_row_lt OL.out g e))
          have OL := Lib.hid (OL.out.alloc (.cells #[.int .i64 a, .int .i64 l, .int .i64 u, .int .i64 f, .int .i64 t] 26))
          have HB := Lib.hid (HB.out.alloc HB.out.size (.cells #[.int .i64 a, .int .i64 l, .int .i64 u, .int .i64 f, .int .i64 t] 26))
          go_simp
          generalize x2.alloc (.cells #[.int .i64 a, .int .i64 l, .int .i64 u, .int .i64 f, .int .i64 t] 26) = x3 at *
          generalize x2.heap.size = bx at *
          refine hK.out _ _ (CSx.out x3 HB.out) (fun hHeld => ?_)
          clear hK K
          try simp only [Act.put, List.getElem_toArray, List.getElem_cons_succ, List.getElem_cons_zero, List.setIfInBounds_toArray, List.set_cons_succ, List.set_cons_zero]
          refine wpAnyE_ready (rs := [7]) (by kernel_rfl) (by simp) ?_
          refine AllReadyE.cons (i := 7) rfl (by decide) (fun K hK => ?_) AllReadyE.nil
          refine step_append_sz rfl (.tmp 55) (.tmp 57) 24 rfl VV.heap.size 26 i0 (.agg #[.int .i64 0, .int .i64 0, .int .i64 0, .int .i64 0, .int .i64 0]) 5 40 Try.underlying24 hi hz0 hz1 hz2 rfl (by decide) vx2 k (cellsI (zs.take (k * 5))) rfl OL.out ⟨bx, 0, none⟩ 1 1 [.int .i64 a, .int .i64 l, .int .i64 u, .int .i64 f, .int .i64 t] rfl rfl (fun j u hu => by rw [Addr.add_lit, Nat.zero_add]; exact (SX.out.cell j).trans (by simpa using hu)) (five_cells _ _ _ _ _) (by unfold maxLen; have := HKN.out; omega) (by have := HKN.out; omega) HB.out.size ?_
          intro vx4 x4 oA gA nA
          have LX := Lib.hid (at_old SX.out)
          have SX := Lib.hid (at_own SX.out OL.out gA NE.out (Nat.le_refl _))
          have NE := Lib.hid (ne_own LX.out NE.out nA)
          have HB := Lib.hid (bl_own HB.out OL.out gA)
          have OL := Lib.hid oA
          clear oA gA nA
          refine hK.out _ _ (CSx.out x4 HB.out) (fun hHeld => ?_)
          clear hK K
          try simp only [Act.put, List.getElem_toArray, List.getElem_cons_succ, List.getElem_cons_zero, List.setIfInBounds_toArray, List.set_cons_succ, List.set_cons_zero]
          refine wpAnyE_ready (rs := [11]) (by kernel_rfl) (by simp) ?_
          refine AllReadyE.cons (i := 11) rfl (by decide) (fun K hK => ?_) AllReadyE.nil
          refine step_append_rd rfl (.tmp 58) (.tmp 61) 24 rfl VV.heap.size 26 i0 (.agg #[.int .i64 0, .int .i64 0, .int .i64 0, .int .i64 0, .int .i64 0]) 40 Try.underlying24 hi hz0 hz1 hz2 rfl vx4 (k + 1) (cellsI (zs.take (k * 5)) ++ [.int .i64 a, .int .i64 l, .int .i64 u, .int .i64 f, .int .i64 t]) rfl OL.out (B := w.heap.size) (A := if c = k then A else Option.map (fun x => x.add (k * 5)) A) (m := n - k) (c := c - k) (ns := zs.drop (k * 5)) rfl (rd_drop (HR.out.below (HVV.out.trans (HB.out.mono HVV.out.size)) (Nat.le_refl _)) HKN.out HC.out) (by unfold maxLen; have := HKN.out; omega) (by have := HKN.out; omega) HB.out.size ?_
          intro vx5 x5 oA gA nA
          rw [row_done, show k + 1 + (n - k) = n + 1 by have := HKN.out; omega] at oA
          have HB := Lib.hid (bl_own HB.out OL.out gA)
          have OL := Lib.hid oA
          clear oA gA nA
          refine hK.out _ _ (CSx.out x5 HB.out) (fun hHeld => ?_)
          clear hK K
          try simp only [Act.put, List.getElem_toArray, List.getElem_cons_succ, List.getElem_cons_zero, List.setIfInBounds_toArray, List.set_cons_succ, List.set_cons_zero]
          refine wpAnyE_ready (rs := [12]) (by kernel_rfl) (by simp) ?_
          refine AllReadyE.last (i := 12) rfl rfl (fun K hK => ?_)
          go_simp
          refine hK.out _ _ ?_
          clear hK K
          try simp only [Act.put, List.getElem_toArray, List.getElem_cons_succ, List.getElem_cons_zero, List.setIfInBounds_toArray, List.set_cons_succ, List.set_cons_zero]
          refine wpAnyE_done (by kernel_rfl) ?_ _
          try simp only [List.getElem_toArray, List.getElem_cons_succ, List.getElem_cons_zero, List.setIfInBounds_toArray, List.set_cons_succ, List.set_cons_zero]
          generalize (if c = k then A else Option.map (fun x => x.add (k * 5)) A) = sq
          obtain ⟨AL, cl, rfl⟩ := own_sliceZ OL.out
          have RD := Lib.hid (RdZ.of_own OL.out (inR_length HL.out HKN.out))
          have GC := Lib.hid (good18 (inR zs k a l u f t) AL (n + 1) cl x5 (by have := HKN.out; omega) RD.out)
          have HBW := Lib.hid (HVV.out.trans (HB.out.mono HVV.out.size))
          cases hcv : cvB (inR zs k a l u f t) (n + 1)
          · rw [hcv] at GC
            have HE := Lib.hid (HNO.out hcv)
            have HV1 := Lib.hid (ciV_no HE.out)
            have HN1 := Lib.hid (ciN_no HE.out)
            clear hcv
            go_wp2_with fail
            refine GC.out.mono ?_
            rintro e w8 ⟨rfl, hb8⟩
            have BX := Lib.hid (HBW.out.trans (hb8.mono HBW.out.size))
            clear hb8
            have OX := Lib.hid (own_.own_base (own_emptyZ w8 26 5) BX.out.size)
            have BY := Lib.hid (BX.out.alloc BX.out.size (.cells #[] 26))
            go_wp2_with fail
            go_ret2
            exact ⟨_, by rw [HE.out]; rfl, by rw [HV1.out, HN1.out]; exact OX.out, BY.out⟩
          · rw [hcv] at GC
            have HE := Lib.hid (HYE.out hcv)
            have HV1 := Lib.hid (ciV_yes HE.out.1)
            have HN1 := Lib.hid (ciN_yes HE.out.1)
            rw [← HE.out.2] at HV1
            clear hcv
            go_wp2_with fail
            refine GC.out.mono ?_
            rintro e w8 ⟨rfl, hb8⟩
            have BX := Lib.hid (HBW.out.trans (hb8.mono HBW.out.size))
            have OX := Lib.hid (own_.own_base (own_.own_below OL.out hb8) HVV.out.size)
            clear hb8
            go_wp2_with fail
            go_ret2
            exact ⟨_, by rw [HE.out.1]; rfl, by rw [HV1.out, HN1.out]; exact OX.out, BX.out⟩
        · have SX := Lib.hid (lvle.at_next 26 #[.int .i64 a, .int .i64 l, .int .i64 u, .int .i64 f, .int .i64 t] HB.out)
          have NE := Lib.hid (fun g e => show g ≠ x1.heap.size from Nat.ne_of_lt (own_row_lt OL.out g e))
          have OL := Lib.hid (OL.out.alloc (.cells #[.int .i64 a, .int .i64 l, .int .i64 u, .int .i64 f, .int .i64 t] 26))
          have HB := Lib.hid (HB.out.alloc HB.out.size (.cells #[.int .i64 a, .int .i64 l, .int .i64 u, .int .i64 f, .int .i64 t] 26))
          go_simp
          generalize x1.alloc (.cells #[.int .i64 a, .int .i64 l, .int .i64 u, .int .i64 f, .int .i64 t] 26) = x6 at *
          generalize x1.heap.size = bx at *
          refine hK.out _ _ (CSx.out x6 HB.out) (fun hHeld => ?_)
          clear hK K
          try simp only [Act.put, List.getElem_toArray, List.getElem_cons_succ, List.getElem_cons_zero, List.setIfInBounds_toArray, List.set_cons_succ, List.set_cons_zero]
          refine wpAnyE_ready (rs := [4]) (by kernel_rfl) (by simp) ?_
          refine AllReadyE.cons (i := 4) rfl (by decide) (fun K hK => ?_) AllReadyE.nil
          refine step_append_rd rfl (.tmp 51) (.tmp 54) 24 rfl VV.heap.size 26 i0 (.agg #[.int .i64 0, .int .i64 0, .int .i64 0, .int .i64 0, .int .i64 0]) 40 Try.underlying24 hi hz0 hz1 hz2 rfl (.slice (some ⟨g0, 0, none⟩) 0 0) 0 [] rfl OL.out (B := w.heap.size) (A := A) (m := k) (c := c) (ns := zs.take (k * 5)) rfl (rd_take (HR.out.below (HVV.out.trans (HB.out.mono HVV.out.size)) (Nat.le_refl _)) HKN.out) (by unfold maxLen; have := HKN.out; omega) (by have := HKN.out; omega) HB.out.size ?_
          intro vx7 x7 oA gA nA
          rw [Nat.zero_add, List.nil_append] at oA
          have LX := Lib.hid (at_old SX.out)
          have SX := Lib.hid (at_own SX.out OL.out gA NE.out (Nat.le_refl _))
          have NE := Lib.hid (ne_own LX.out NE.out nA)
          have HB := Lib.hid (bl_own HB.out OL.out gA)
          have OL := Lib.hid oA
          clear oA gA nA
          refine hK.out _ _ (CSx.out x7 HB.out) (fun hHeld => ?_)
          clear hK K
          try simp only [Act.put, List.getElem_toArray, List.getElem_cons_succ, List.getElem_cons_zero, List.setIfInBounds_toArray, List.set_cons_succ, List.set_cons_zero]
          refine wpAnyE_ready (rs := [7]) (by kernel_rfl) (by simp) ?_
          refine AllReadyE.cons (i := 7) rfl (by decide) (fun K hK => ?_) AllReadyE.nil
          refine step_append_sz rfl (.tmp 55) (.tmp 57) 24 rfl VV.heap.size 26 i0 (.agg #[.int .i64 0, .int .i64 0, .int .i64 0, .int .i64 0, .int .i64 0]) 5 40 Try.underlying24 hi hz0 hz1 hz2 rfl (by decide) vx7 k (cellsI (zs.take (k * 5))) rfl OL.out ⟨bx, 0, none⟩ 1 1 [.int .i64 a, .int .i64 l, .int .i64 u, .int .i64 f, .int .i64 t] rfl rfl (fun j u hu => by rw [Addr.add_lit, Nat.zero_add]; exact (SX.out.cell j).trans (by simpa using hu)) (five_cells _ _ _ _ _) (by unfold maxLen; have := HKN.out; omega) (by have := HKN.out; omega) HB.out.size ?_
          intro vx8 x8 oA gA nA
          have LX := Lib.hid (at_old SX.out)
          have SX := Lib.hid (at_own SX.out OL.out gA NE.out (Nat.le_refl _))
          have NE := Lib.hid (ne_own LX.out NE.out nA)
          have HB := Lib.hid (bl_own HB.out OL.out gA)
          have OL := Lib.hid oA
          clear oA gA nA
          refine hK.out _ _ (CSx.out x8 HB.out) (fun hHeld => ?_)
          clear hK K
          try simp only [Act.put, List.getElem_toArray, List.getElem_cons_succ, List.getElem_cons_zero, List.setIfInBounds_toArray, List.set_cons_succ, List.set_cons_zero]
          refine wpAnyE_ready (rs := [11]) (by kernel_rfl) (by simp) ?_
          refine AllReadyE.cons (i := 11) rfl (by decide) (fun K hK => ?_) AllReadyE.nil
          refine step_append_rd rfl (.tmp 58) (.tmp 61) 24 rfl VV.heap.size 26 i0 (.agg #[.int .i64 0, .int .i64 0, .int .i64 0, .int .i64 0, .int .i64 0]) 40 Try.underlying24 hi hz0 hz1 hz2 rfl vx8 (k + 1) (cellsI (zs.take (k * 5)) ++ [.int .i64 a, .int .i64 l, .int .i64 u, .int .i64 f, .int .i64 t]) rfl OL.out (B := w.heap.size) (A := if c = k then A else Option.map (fun x => x.add (k * 5)) A) (m := n - k) (c := c - k) (ns := zs.drop (k * 5)) rfl (rd_drop (HR.out.below (HVV.out.trans (HB.out.mono HVV.out.size)) (Nat.le_refl _)) HKN.out HC.out) (by unfold maxLen; have := HKN.out; omega) (by have := HKN.out; omega) HB.out.size ?_
          intro vx9 x9 oA gA nA
          rw [row_done, show k + 1 + (n - k) = n + 1 by have := HKN.out; omega] at oA
          have HB := Lib.hid (bl_own HB.out OL.out gA)
          have OL := Lib.hid oA
          clear oA gA nA
          refine hK.out _ _ (CSx.out x9 HB.out) (fun hHeld => ?_)
          clear hK K
          try simp only [Act.put, List.getElem_toArray, List.getElem_cons_succ, List.getElem_cons_zero, List.setIfInBounds_toArray, List.set_cons_succ, List.set_cons_zero]
          refine wpAnyE_ready (rs := [12]) (by kernel_rfl) (by simp) ?_
          refine AllReadyE.last (i := 12) rfl rfl (fun K hK => ?_)
          go_simp
          refine hK.out _ _ ?_
          clear hK K
          try simp only [Act.put, List.getElem_toArray, List.getElem_cons_succ, List.getElem_cons_zero, List.setIfInBounds_toArray, List.set_cons_succ, List.set_cons_zero]
          refine wpAnyE_done (by kernel_rfl) ?_ _
          try simp only [List.getElem_toArray, List.getElem_cons_succ, List.getElem_cons_zero, List.setIfInBounds_toArray, List.set_cons_succ, List.set_cons_zero]
          generalize (if c = k then A else Option.map (fun x => x.add (k * 5)) A) = sq
          obtain ⟨AL, cl, rfl⟩ := own_sliceZ OL.out
          have RD := Lib.hid (RdZ.of_own OL.out (inR_length HL.out HKN.out))
          have GC := Lib.hid (good18 (inR zs k a l u f t) AL (n + 1) cl x9 (by have := HKN.out; omega) RD.out)
          have HBW := Lib.hid (HVV.out.trans (HB.out.mono HVV.out.size))
          cases hcv : cvB (inR zs k a l u f t) (n + 1)
          · rw [hcv] at GC
            have HE := Lib.hid (HNO.out hcv)
            have HV1 := Lib.hid (ciV_no HE.out)
            have HN1 := Lib.hid (ciN_no HE.out)
            clear hcv
            go_wp2_with fail
            refine GC.out.mono ?_
            rintro e w8 ⟨rfl, hb8⟩
            have BX := Lib.hid (HBW.out.trans (hb8.mono HBW.out.size))
            clear hb8
            have OX := Lib.hid (own_.own_base (own_emptyZ w8 26 5) BX.out.size)
            have BY := Lib.hid (BX.out.alloc BX.out.size (.cells #[] 26))
            go_wp2_with fail
            go_ret2
            exact ⟨_, by rw [HE.out]; rfl, by rw [HV1.out, HN1.out]; exact OX.out, BY.out⟩
          · rw [hcv] at GC
            have HE := Lib.hid (HYE.out hcv)
            have HV1 := Lib.hid (ciV_yes HE.out.1)
            have HN1 := Lib.hid (ciN_yes HE.out.1)
            rw [← HE.out.2] at HV1
            clear hcv
            go_wp2_with fail
            refine GC.out.mono ?_
            rintro e w8 ⟨rfl, hb8⟩
            have BX := Lib.hid (HBW.out.trans (hb8.mono HBW.out.size))
            have OX := Lib.hid (own_.own_base (own_.own_below OL.out hb8) HVV.out.size)
            clear hb8
            go_wp2_with fail
            go_ret2
            exact ⟨_, by rw [HE.out.1]; rfl, by rw [HV1.out, HN1.out]; exact OX.out, BX.out⟩
      · have SX := Lib.hid (lvle.at_next 26 #[.int .i64 a, .int .i64 l, .int .i64 u, .int .i64 f, .int .i64 t] HB.out)
        have HB := Lib.hid (HB.out.alloc HB.out.size (.cells #[.int .i64 a, .int .i64 l, .int .i64 u, .int .i64 f, .int .i64 t] 26))
        go_simp
        generalize F0.alloc (.cells #[.int .i64 a, .int .i64 l, .int .i64 u, .int .i64 f, .int .i64 t] 26) = x10 at *
        generalize F0.heap.size = bx at *
        refine hK.out _ _ (CSx.out x10 HB.out) (fun hHeld => ?_)
        clear hK K
        try simp only [Act.put, List.getElem_toArray, List.getElem_cons_succ, List.getElem_cons_zero, List.setIfInBounds_toArray, List.set_cons_succ, List.set_cons_zero]
        refine wpAnyE_ready (rs := [0]) (by kernel_rfl) (by simp) ?_
        refine AllReadyE.cons (i := 0) rfl (by decide) (fun K hK => ?_) AllReadyE.nil
        have OL := Lib.hid (own_new HB.out 26)
        have LX := Lib.hid (at_old SX.out)
        have SX := Lib.hid (SX.out.alloc (.cells #[] 26))
        have NE := Lib.hid (fun g (e : Value.ownBlock (.slice (some ⟨x10.heap.size, 0, none⟩) 0 0) = some g) => show g ≠ bx by have := LX.out; injection e with e; simp at e; omega)
        have HB := Lib.hid (HB.out.alloc HB.out.size (.cells #[] 26))
        go_simp
        generalize x10.alloc (.cells #[] 26) = x11 at *
        generalize x10.heap.size = g0 at *
        refine hK.out _ _ (CSx.out x11 HB.out) (fun hHeld => ?_)
        clear hK K
        try simp only [Act.put, List.getElem_toArray, List.getElem_cons_succ, List.getElem_cons_zero, List.setIfInBounds_toArray, List.set_cons_succ, List.set_cons_zero]
        refine wpAnyE_ready (rs := [4]) (by kernel_rfl) (by simp) ?_
        refine AllReadyE.cons (i := 4) rfl (by decide) (fun K hK => ?_) AllReadyE.nil
        refine step_append_rd rfl (.tmp 51) (.tmp 54) 24 rfl VV.heap.size 26 i0 (.agg #[.int .i64 0, .int .i64 0, .int .i64 0, .int .i64 0, .int .i64 0]) 40 Try.underlying24 hi hz0 hz1 hz2 rfl (.slice (some ⟨g0, 0, none⟩) 0 0) 0 [] rfl OL.out (B := w.heap.size) (A := A) (m := k) (c := c) (ns := zs.take (k * 5)) rfl (rd_take (HR.out.below (HVV.out.trans (HB.out.mono HVV.out.size)) (Nat.le_refl _)) HKN.out) (by unfold maxLen; have := HKN.out; omega) (by have := HKN.out; omega) HB.out.size ?_
        intro vx12 x12 oA gA nA
        rw [Nat.zero_add, List.nil_append] at oA
        have LX := Lib.hid (at_old SX.out)
        have SX := Lib.hid (at_own SX.out OL.out gA NE.out (Nat.le_refl _))
        have NE := Lib.hid (ne_own LX.out NE.out nA)
        have HB := Lib.hid (bl_own HB.out OL.out gA)
        have OL := Lib.hid oA
        clear oA gA nA
        refine hK.out _ _ (CSx.out x12 HB.out) (fun hHeld => ?_)
        clear hK K
        try simp only [Act.put, List.getElem_toArray, List.getElem_cons_succ, List.getElem_cons_zero, List.setIfInBounds_toArray, List.set_cons_succ, List.set_cons_zero]
        refine wpAnyE_ready (rs := [7]) (by kernel_rfl) (by simp) ?_
        refine AllReadyE.cons (i := 7) rfl (by decide) (fun K hK => ?_) AllReadyE.nil
        refine step_append_sz rfl (.tmp 55) (.tmp 57) 24 rfl VV.heap.size 26 i0 (.agg #[.int .i64 0, .int .i64 0, .int .i64 0, .int .i64 0, .int .i64 0]) 5 40 Try.underlying24 hi hz0 hz1 hz2 rfl (by decide) vx12 k (cellsI (zs.take (k * 5))) rfl OL.out ⟨bx, 0, none⟩ 1 1 [.int .i64 a, .int .i64 l, .int .i64 u, .int .i64 f, .int .i64 t] rfl rfl (fun j u hu => by rw [Addr.add_lit, Nat.zero_add]; exact (SX.out.cell j).trans (by simpa using hu)) (five_cells _ _ _ _ _) (by unfold maxLen; have := HKN.out; omega) (by have := HKN.out; omega) HB.out.size ?_
        intro vx13 x13 oA gA nA
        have LX := Lib.hid (at_old SX.out)
        have SX := Lib.hid (at_own SX.out OL.out gA NE.out (Nat.le_refl _))
        have NE := Lib.hid (ne_own LX.out NE.out nA)
        have HB := Lib.hid (bl_own HB.out OL.out gA)
        have OL := Lib.hid oA
        clear oA gA nA
        refine hK.out _ _ (CSx.out x13 HB.out) (fun hHeld => ?_)
        clear hK K
        try simp only [Act.put, List.getElem_toArray, List.getElem_cons_succ, List.getElem_cons_zero, List.setIfInBounds_toArray, List.set_cons_succ, List.set_cons_zero]
        refine wpAnyE_ready (rs := [11]) (by kernel_rfl) (by simp) ?_
        refine AllReadyE.cons (i := 11) rfl (by decide) (fun K hK => ?_) AllReadyE.nil
        refine step_append_rd rfl (.tmp 58) (.tmp 61) 24 rfl VV.heap.size 26 i0 (.agg #[.int .i64 0, .int .i64 0, .int .i64 0, .int .i64 0, .int .i64 0]) 40 Try.underlying24 hi hz0 hz1 hz2 rfl vx13 (k + 1) (cellsI (zs.take (k * 5)) ++ [.int .i64 a, .int .i64 l, .int .i64 u, .int .i64 f, .int .i64 t]) rfl OL.out (B := w.heap.size) (A := if c = k then A else Option.map (fun x => x.add (k * 5)) A) (m := n - k) (c := c - k) (ns := zs.drop (k * 5)) rfl (rd_drop (HR.out.below (HVV.out.trans (HB.out.mono HVV.out.size)) (Nat.le_refl _)) HKN.out HC.out) (by unfold maxLen; have := HKN.out; omega) (by have := HKN.out; omega) HB.out.size ?_
        intro vx14 x14 oA gA nA
        rw [row_done, show k + 1 + (n - k) = n + 1 by have := HKN.out; omega] at oA
        have HB := Lib.hid (bl_own HB.out OL.out gA)
        have OL := Lib.hid oA
        clear oA gA nA
        refine hK.out _ _ (CSx.out x14 HB.out) (fun hHeld => ?_)
        clear hK K
        try simp only [Act.put, List.getElem_toArray, List.getElem_cons_succ, List.getElem_cons_zero, List.setIfInBounds_toArray, List.set_cons_succ, List.set_cons_zero]
        refine wpAnyE_ready (rs := [12]) (by kernel_rfl) (by simp) ?_
        refine AllReadyE.last (i := 12) rfl rfl (fun K hK => ?_)
        go_simp
        refine hK.out _ _ ?_
        clear hK K
        try simp only [Act.put, List.getElem_toArray, List.getElem_cons_succ, List.getElem_cons_zero, List.setIfInBounds_toArray, List.set_cons_succ, List.set_cons_zero]
        refine wpAnyE_done (by kernel_rfl) ?_ _
        try simp only [List.getElem_toArray, List.getElem_cons_succ, List.getElem_cons_zero, List.setIfInBounds_toArray, List.set_cons_succ, List.set_cons_zero]
        generalize (if c = k then A else Option.map (fun x => x.add (k * 5)) A) = sq
        obtain ⟨AL, cl, rfl⟩ := own_sliceZ OL.out
        have RD := Lib.hid (RdZ.of_own OL.out (inR_length HL.out HKN.out))
        have GC := Lib.hid (good18 (inR zs k a l u f t) AL (n + 1) cl x14 (by have := HKN.out; omega) RD.out)
        have HBW := Lib.hid (HVV.out.trans (HB.out.mono HVV.out.size))
        cases hcv : cvB (inR zs k a l u f t) (n + 1)
        · rw [hcv] at GC
          have HE := Lib.hid (HNO.out hcv)
          have HV1 := Lib.hid (ciV_no HE.out)
          have HN1 := Lib.hid (ciN_no HE.out)
          clear hcv
          go_wp2_with fail
          refine GC.out.mono ?_
          rintro e w8 ⟨rfl, hb8⟩
          have BX := Lib.hid (HBW.out.trans (hb8.mono HBW.out.size))
          clear hb8
          have OX := Lib.hid (own_.own_base (own_emptyZ w8 26 5) BX.out.size)
          have BY := Lib.hid (BX.out.alloc BX.out.size (.cells #[] 26))
          go_wp2_with fail
          go_ret2
          exact ⟨_, by rw [HE.out]; rfl, by rw [HV1.out, HN1.out]; exact OX.out, BY.out⟩
        · rw [hcv] at GC
          have HE := Lib.hid (HYE.out hcv)
          have HV1 := Lib.hid (ciV_yes HE.out.1)
          have HN1 := Lib.hid (ciN_yes HE.out.1)
          rw [← HE.out.2] at HV1
          clear hcv
          go_wp2_with fail
          refine GC.out.mono ?_
          rintro e w8 ⟨rfl, hb8⟩
          have BX := Lib.hid (HBW.out.trans (hb8.mono HBW.out.size))
          have OX := Lib.hid (own_.own_base (own_.own_below OL.out hb8) HVV.out.size)
          clear hb8
          go_wp2_with fail
          go_ret2
          exact ⟨_, by rw [HE.out.1]; rfl, by rw [HV1.out, HN1.out]; exact OX.out, BX.out⟩
    · obtain ⟨p, hp⟩ : ∃ p, p + 1 = k := ⟨k - 1, by omega⟩
      have hpn2 : (p : Int) < (n : Int) := by omega
      have hp0 : (0 : Int) ≤ (p : Int) := Int.natCast_nonneg _
      have e1 : IntKind.i64.wrap ((k : Int) - 1) = (p : Int) := by rw [IntWalk.i64_in _ (by omega)]; omega
      have hk1 : decide ((0 : Int) < (k : Int)) = true := decide_eq_true (by omega)
      have hk2 : decide (0 < k) = true := decide_eq_true h0
      obtain ⟨b1, o1, eA, l1, q0, q1, q2, q3, q4⟩ := cellsE (HR.out.below (SB.out.1) (Nat.le_refl _)) (show p < n by omega)
      have HG := Lib.hid (show gtK zs a f p = _ from gt_is)
      have HYS := Lib.hid (fun (h : gtK zs a f p = true) => show spK zs a f n = spK zs a f p by rw [hsp, ← hp, spK_yes h])
      have HNS := Lib.hid (fun (h : gtK zs a f p = false) => show spK zs a f n = k by rw [hsp, ← hp, spK_not h])
      have HKN := Lib.hid hk
      have HPK := Lib.hid hp
      clear hb hsp h0 hp c01 c02 c04 q1 q2 q4
      generalize fld 5 zs p 0 = v0 at *
      generalize fld 5 zs p 3 = v3 at *
      by_cases g0 : a < v0
      · have g0b : decide (a < v0) = true := decide_eq_true g0
        have HGT := Lib.hid (show gtK zs a f p = true by rw [HG.out, decide_eq_true g0]; rfl)
        clear g0
        have HT := Lib.hid (HYS.out HGT.out)
        clear HYS HNS HG HGT
        subst eA
        go_upto_region 4 with fail
        have c00' := fun d0 os => cell_regrown c00 d0 os
        have c03' := fun d0 os => cell_regrown c03 d0 os
        have q0' := fun d0 os => cell_regrown q0 d0 os
        have q3' := fun d0 os => cell_regrown q3 d0 os
        clear c00 c03 q0 q3
        refine wp_region_quiet_below (by kernel_rfl) (by kernel_rfl) ?_
        repeat (
          with_reducible refine wpQuiet_step (fun K hK => ?_)
          go_simp
          refine hK _ ?_; clear hK K)
        with_reducible refine wpQuiet_nil ?_
        intro _ hw'
        obtain ⟨⟨dq, osq⟩, hw''⟩ := hw'
        subst hw''
        have hbl := (below_regrown wr dq osq)
        clear c00' c03' q0' q3'
        generalize Sort.grow (redrawn wr dq) osq = VV at *
        have B3 := Lib.hid (HB0.out.trans (hbl.mono HB0.out.size))
        clear hbl
        go_wp2_with fail
        go_roundw
        case rel => exact ⟨p, by have := HPK.out; have := HKN.out; omega, rfl, B3.out, HT.out⟩
        case measure => have := HPK.out; simp [intOf]; omega
      · have g0b : decide (a < v0) = false := decide_eq_false g0
        by_cases g1 : v0 = a
        · have g1b : (v0 == a) = true := beq_iff_eq.mpr g1
          by_cases g2 : f < v3
          · have g2b : decide (f < v3) = true := decide_eq_true g2
            have HGT := Lib.hid (show gtK zs a f p = true by rw [HG.out, decide_eq_true g1, decide_eq_true g2]; simp)
            clear g0 g1 g2
            have HT := Lib.hid (HYS.out HGT.out)
            clear HYS HNS HG HGT
            subst eA
            go_upto_region 4 with fail
            have c00' := fun d0 os => cell_regrown c00 d0 os
            have c03' := fun d0 os => cell_regrown c03 d0 os
            have q0' := fun d0 os => cell_regrown q0 d0 os
            have q3' := fun d0 os => cell_regrown q3 d0 os
            clear c00 c03 q0 q3
            refine wp_region_quiet_below (by kernel_rfl) (by kernel_rfl) ?_
            repeat (
              with_reducible refine wpQuiet_step (fun K hK => ?_)
              go_simp
              refine hK _ ?_; clear hK K)
            with_reducible refine wpQuiet_nil ?_
            intro _ hw'
            obtain ⟨⟨dq, osq⟩, hw''⟩ := hw'
            subst hw''
            have hbl := (below_regrown wr dq osq)
            clear c00' c03' q0' q3'
            generalize Sort.grow (redrawn wr dq) osq = VV at *
            have B3 := Lib.hid (HB0.out.trans (hbl.mono HB0.out.size))
            clear hbl
            go_wp2_with fail
            go_roundw
            case rel => exact ⟨p, by have := HPK.out; have := HKN.out; omega, rfl, B3.out, HT.out⟩
            case measure => have := HPK.out; simp [intOf]; omega
          · have g2b : decide (f < v3) = false := decide_eq_false g2
            have HGT := Lib.hid (show gtK zs a f p = false by rw [HG.out, decide_eq_false g0, decide_eq_false g2, Bool.and_false]; rfl)
            clear g0 g1 g2
            have HPL := Lib.hid (HNS.out HGT.out)
            clear HYS HNS HG HGT
            subst eA
            go_upto_region 4 with fail
            have c00' := fun d0 os => cell_regrown c00 d0 os
            have c03' := fun d0 os => cell_regrown c03 d0 os
            have q0' := fun d0 os => cell_regrown q0 d0 os
            have q3' := fun d0 os => cell_regrown q3 d0 os
            clear c00 c03 q0 q3
            refine wp_region_quiet_below (by kernel_rfl) (by kernel_rfl) ?_
            repeat (
              with_reducible refine wpQuiet_step (fun K hK => ?_)
              go_simp
              refine hK _ ?_; clear hK K)
            with_reducible refine wpQuiet_nil ?_
            intro _ hw'
            obtain ⟨⟨dq, osq⟩, hw''⟩ := hw'
            subst hw''
            have hbl := (below_regrown wr dq osq)
            clear c00' c03' q0' q3'
            generalize Sort.grow (redrawn wr dq) osq = VV at *
            have B3 := Lib.hid (HB0.out.trans (hbl.mono HB0.out.size))
            clear hbl
            have HNO := Lib.hid (fun (h : cvB (inR zs k a l u f t) (n + 1) = false) => show ciB zs n a l u f t = false by rw [← ci_spec HL.out, HPL.out, h, Bool.and_false])
            have HYE := Lib.hid (fun (h : cvB (inR zs k a l u f t) (n + 1) = true) => show ciB zs n a l u f t = true ∧ k = ldI zs n a f from by
              have h1 : ciB zs n a l u f t = true := by rw [← ci_spec HL.out, HPL.out, h, HCV.out]; rfl
              exact ⟨h1, HPL.out.symm.trans (ci_place HL.out h1)⟩)
            have k0 : (0 : Int) ≤ (k : Int) := Int.natCast_nonneg _
            have k1 : (k : Int) ≤ (c : Int) := by have := HKN.out; have := HC.out; omega
            have k2 : (k : Int) ≤ (n : Int) := by have := HKN.out; omega
            have k3 : (n : Int) ≤ (c : Int) := by have := HC.out; omega
            have S3 := Lib.hid (S1.out.old B3.out)
            have HVV := Lib.hid S3.out.1
            go_upto_region 6 with fail
            have CSx := Lib.hid (show ∀ WZ : World, Below VV.heap.size VV WZ → (World.cell? WZ ⟨w.heap.size, 0, none⟩ = some (.int .i64 a) ∧ World.cell? WZ ⟨w.heap.size, 1, none⟩ = some (.int .i64 l) ∧ World.cell? WZ ⟨w.heap.size, 2, none⟩ = some (.int .i64 u) ∧ World.cell? WZ ⟨w.heap.size, 3, none⟩ = some (.int .i64 f) ∧ World.cell? WZ ⟨w.heap.size, 4, none⟩ = some (.int .i64 t)) from fun WZ hz => ⟨(S3.out.old hz).cell 0, (S3.out.old hz).cell 1, (S3.out.old hz).cell 2, (S3.out.old hz).cell 3, (S3.out.old hz).cell 4⟩)
            have HB := Lib.hid ((Below.refl VV.heap.size VV).drew)
            have HSa := Lib.hid (CSx.out _ HB.out)
            refine wp_region_tail (S := fun w' => World.cell? w' ⟨w.heap.size, 0, none⟩ = some (.int .i64 a) ∧ World.cell? w' ⟨w.heap.size, 1, none⟩ = some (.int .i64 l) ∧ World.cell? w' ⟨w.heap.size, 2, none⟩ = some (.int .i64 u) ∧ World.cell? w' ⟨w.heap.size, 3, none⟩ = some (.int .i64 f) ∧ World.cell? w' ⟨w.heap.size, 4, none⟩ = some (.int .i64 t)) 12 (by kernel_rfl) HSa.out (fun hHeld => ?_)
            generalize VV.drew = F0 at *
            try simp only [Act.put, List.getElem_toArray, List.getElem_cons_succ, List.getElem_cons_zero, List.setIfInBounds_toArray, List.set_cons_succ, List.set_cons_zero]
            refine wpAnyE_take (i := 1) (v := ?vt5_1) rfl (by decide +kernel) (fun _ _ _ h => h) (Or.inl ⟨by first | rfl | kernel_rfl, ?ht5_1⟩) (by assumption) ?rt5_1
            case ht5_1 =>
              intro wS hSw
              obtain ⟨h0, h1, h2, h3, h4⟩ := hSw
              go_simp
              try with_reducible rfl
            try simp only [Act.put, List.getElem_toArray, List.getElem_cons_succ, List.getElem_cons_zero, List.setIfInBounds_toArray, List.set_cons_succ, List.set_cons_zero]
            refine wpAnyE_take (i := 2) (v := ?vt5_2) rfl (by decide +kernel) (fun _ _ _ h => h) (Or.inl ⟨by first | rfl | kernel_rfl, ?ht5_2⟩) (by assumption) ?rt5_2
            case ht5_2 =>
              intro wS hSw
              obtain ⟨h0, h1, h2, h3, h4⟩ := hSw
              go_simp
              try with_reducible rfl
            try simp only [Act.put, List.getElem_toArray, List.getElem_cons_succ, List.getElem_cons_zero, List.setIfInBounds_toArray, List.set_cons_succ, List.set_cons_zero]
            refine wpAnyE_take (i := 3) (v := ?vt5_3) rfl (by decide +kernel) (fun _ _ _ h => h) (Or.inl ⟨by first | rfl | kernel_rfl, ?ht5_3⟩) (by assumption) ?rt5_3
            case ht5_3 =>
              intro wS hSw
              obtain ⟨h0, h1, h2, h3, h4⟩ := hSw
              go_simp
              try with_reducible rfl
            try simp only [Act.put, List.getElem_toArray, List.getElem_cons_succ, List.getElem_cons_zero, List.setIfInBounds_toArray, List.set_cons_succ, List.set_cons_zero]
            refine wpAnyE_take (i := 5) (v := ?vt5_5) rfl (by decide +kernel) (fun _ _ _ h => h) (Or.inl ⟨by first | rfl | kernel_rfl, ?ht5_5⟩) (by assumption) ?rt5_5
            case ht5_5 =>
              intro wS hSw
              obtain ⟨h0, h1, h2, h3, h4⟩ := hSw
              go_simp
              try with_reducible rfl
            try simp only [Act.put, List.getElem_toArray, List.getElem_cons_succ, List.getElem_cons_zero, List.setIfInBounds_toArray, List.set_cons_succ, List.set_cons_zero]
            refine wpAnyE_take (i := 8) (v := ?vt5_8) rfl (by decide +kernel) (fun _ _ _ h => h) (Or.inl ⟨by first | rfl | kernel_rfl, ?ht5_8⟩) (by assumption) ?rt5_8
            case ht5_8 =>
              intro wS hSw
              obtain ⟨h0, h1, h2, h3, h4⟩ := hSw
              go_simp
              try with_reducible rfl
            try simp only [Act.put, List.getElem_toArray, List.getElem_cons_succ, List.getElem_cons_zero, List.setIfInBounds_toArray, List.set_cons_succ, List.set_cons_zero]
            refine wpAnyE_take (i := 9) (v := ?vt5_9) rfl (by decide +kernel) (fun _ _ _ h => h) (Or.inl ⟨by first | rfl | kernel_rfl, ?ht5_9⟩) (by assumption) ?rt5_9
            case ht5_9 =>
              intro wS hSw
              obtain ⟨h0, h1, h2, h3, h4⟩ := hSw
              go_simp
              try with_reducible rfl
            try simp only [Act.put, List.getElem_toArray, List.getElem_cons_succ, List.getElem_cons_zero, List.setIfInBounds_toArray, List.set_cons_succ, List.set_cons_zero]
            refine wpAnyE_take (i := 10) (v := ?vt5_10) rfl (by decide +kernel) (fun _ _ _ h => h) (Or.inl ⟨by first | rfl | kernel_rfl, ?ht5_10⟩) (by assumption) ?rt5_10
            case ht5_10 =>
              intro wS hSw
              obtain ⟨h0, h1, h2, h3, h4⟩ := hSw
              go_simp
              try with_reducible rfl
            try simp only [Act.put, List.getElem_toArray, List.getElem_cons_succ, List.getElem_cons_zero, List.setIfInBounds_toArray, List.set_cons_succ, List.set_cons_zero]
            refine wpAnyE_ready (rs := [0, 6]) (by kernel_rfl) (by simp) ?_
            refine AllReadyE.cons (i := 0) rfl (by decide) (fun K hK => ?_) (AllReadyE.cons (i := 6) rfl (by decide) (fun K hK => ?_) AllReadyE.nil)
            · have OL := Lib.hid (own_new HB.out 26)
              have HB := Lib.hid (HB.out.alloc HB.out.size (.cells #[] 26))
              go_simp
              generalize F0.alloc (.cells #[] 26) = x15 at *
              generalize F0.heap.size = g0 at *
              refine hK.out _ _ (CSx.out x15 HB.out) (fun hHeld => ?_)
              clear hK K
              try simp only [Act.put, List.getElem_toArray, List.getElem_cons_succ, List.getElem_cons_zero, List.setIfInBounds_toArray, List.set_cons_succ, List.set_cons_zero]
              refine wpAnyE_ready (rs := [4, 6]) (by kernel_rfl) (by simp) ?_
              refine AllReadyE.cons (i := 4) rfl (by decide) (fun K hK => ?_) (AllReadyE.cons (i := 6) rfl (by decide) (fun K hK => ?_) AllReadyE.nil)
              · refine step_append_rd rfl (.tmp 51) (.tmp 54) 24 rfl VV.heap.size 26 i0 (.agg #[.int .i64 0, .int .i64 0, .int .i64 0, .int .i64 0, .int .i64 0]) 40 Try.underlying24 hi hz0 hz1 hz2 rfl (.slice (some ⟨g0, 0, none⟩) 0 0) 0 [] rfl OL.out (B := w.heap.size) (A := some ⟨b1, o1, none⟩) (m := k) (c := c) (ns := zs.take (k * 5)) rfl (rd_take (HR.out.below (HVV.out.trans (HB.out.mono HVV.out.size)) (Nat.le_refl _)) HKN.out) (by unfold maxLen; have := HKN.out; omega) (by have := HKN.out; omega) HB.out.size ?_
                intro vx16 x16 oA gA nA
                rw [Nat.zero_add, List.nil_append] at oA
                have HB := Lib.hid (bl_own HB.out OL.out gA)
                have OL := Lib.hid oA
                clear oA gA nA
                refine hK.out _ _ (CSx.out x16 HB.out) (fun hHeld => ?_)
                clear hK K
                try simp only [Act.put, List.getElem_toArray, List.getElem_cons_succ, List.getElem_cons_zero, List.setIfInBounds_toArray, List.set_cons_succ, List.set_cons_zero]
                refine wpAnyE_ready (rs := [6]) (by kernel_rfl) (by simp) ?_
                refine AllReadyE.cons (i := 6) rfl (by decide) (fun K hK => ?_) AllReadyE.nil
                have SX := Lib.hid (lvle.at_next 26 #[.int .i64 a, .int .i64 l, .int .i64 u, .int .i64 f, .int .i64 t] HB.out)
                have NE := Lib.hid (fun g e => show g ≠ x16.heap.size from Nat.ne_of_lt (own_row_lt OL.out g e))
                have OL := Lib.hid (OL.out.alloc (.cells #[.int .i64 a, .int .i64 l, .int .i64 u, .int .i64 f, .int .i64 t] 26))
                have HB := Lib.hid (HB.out.alloc HB.out.size (.cells #[.int .i64 a, .int .i64 l, .int .i64 u, .int .i64 f, .int .i64 t] 26))
                go_simp
                generalize x16.alloc (.cells #[.int .i64 a, .int .i64 l, .int .i64 u, .int .i64 f, .int .i64 t] 26) = x17 at *
                generalize x16.heap.size = bx at *
                refine hK.out _ _ (CSx.out x17 HB.out) (fun hHeld => ?_)
                clear hK K
                try simp only [Act.put, List.getElem_toArray, List.getElem_cons_succ, List.getElem_cons_zero, List.setIfInBounds_toArray, List.set_cons_succ, List.set_cons_zero]
                refine wpAnyE_ready (rs := [7]) (by kernel_rfl) (by simp) ?_
                refine AllReadyE.cons (i := 7) rfl (by decide) (fun K hK => ?_) AllReadyE.nil
                refine step_append_sz rfl (.tmp 55) (.tmp 57) 24 rfl VV.heap.size 26 i0 (.agg #[.int .i64 0, .int .i64 0, .int .i64 0, .int .i64 0, .int .i64 0]) 5 40 Try.underlying24 hi hz0 hz1 hz2 rfl (by decide) vx16 k (cellsI (zs.take (k * 5))) rfl OL.out ⟨bx, 0, none⟩ 1 1 [.int .i64 a, .int .i64 l, .int .i64 u, .int .i64 f, .int .i64 t] rfl rfl (fun j u hu => by rw [Addr.add_lit, Nat.zero_add]; exact (SX.out.cell j).trans (by simpa using hu)) (five_cells _ _ _ _ _) (by unfold maxLen; have := HKN.out; omega) (by have := HKN.out; omega) HB.out.size ?_
                intro vx18 x18 oA gA nA
                have LX := Lib.hid (at_old SX.out)
                have SX := Lib.hid (at_own SX.out OL.out gA NE.out (Nat.le_refl _))
                have NE := Lib.hid (ne_own LX.out NE.out nA)
                have HB := Lib.hid (bl_own HB.out OL.out gA)
                have OL := Lib.hid oA
                clear oA gA nA
                refine hK.out _ _ (CSx.out x18 HB.out) (fun hHeld => ?_)
                clear hK K
                try simp only [Act.put, List.getElem_toArray, List.getElem_cons_succ, List.getElem_cons_zero, List.setIfInBounds_toArray, List.set_cons_succ, List.set_cons_zero]
                refine wpAnyE_ready (rs := [11]) (by kernel_rfl) (by simp) ?_
                refine AllReadyE.cons (i := 11) rfl (by decide) (fun K hK => ?_) AllReadyE.nil
                refine step_append_rd rfl (.tmp 58) (.tmp 61) 24 rfl VV.heap.size 26 i0 (.agg #[.int .i64 0, .int .i64 0, .int .i64 0, .int .i64 0, .int .i64 0]) 40 Try.underlying24 hi hz0 hz1 hz2 rfl vx18 (k + 1) (cellsI (zs.take (k * 5)) ++ [.int .i64 a, .int .i64 l, .int .i64 u, .int .i64 f, .int .i64 t]) rfl OL.out (B := w.heap.size) (A := if c = k then some (⟨b1, o1, none⟩ : Addr) else some (⟨b1, o1 + k * 5, none⟩ : Addr)) (m := n - k) (c := c - k) (ns := zs.drop (k * 5)) rfl (rd_dropS (HR.out.below (HVV.out.trans (HB.out.mono HVV.out.size)) (Nat.le_refl _)) HKN.out HC.out) (by unfold maxLen; have := HKN.out; omega) (by have := HKN.out; omega) HB.out.size ?_
                intro vx19 x19 oA gA nA
                rw [row_done, show k + 1 + (n - k) = n + 1 by have := HKN.out; omega] at oA
                have HB := Lib.hid (bl_own HB.out OL.out gA)
                have OL := Lib.hid oA
                clear oA gA nA
                refine hK.out _ _ (CSx.out x19 HB.out) (fun hHeld => ?_)
                clear hK K
                try simp only [Act.put, List.getElem_toArray, List.getElem_cons_succ, List.getElem_cons_zero, List.setIfInBounds_toArray, List.set_cons_succ, List.set_cons_zero]
                refine wpAnyE_ready (rs := [12]) (by kernel_rfl) (by simp) ?_
                refine AllReadyE.last (i := 12) rfl rfl (fun K hK => ?_)
                go_simp
                refine hK.out _ _ ?_
                clear hK K
                try simp only [Act.put, List.getElem_toArray, List.getElem_cons_succ, List.getElem_cons_zero, List.setIfInBounds_toArray, List.set_cons_succ, List.set_cons_zero]
                refine wpAnyE_done (by kernel_rfl) ?_ _
                try simp only [List.getElem_toArray, List.getElem_cons_succ, List.getElem_cons_zero, List.setIfInBounds_toArray, List.set_cons_succ, List.set_cons_zero]
                generalize (if c = k then some (⟨b1, o1, none⟩ : Addr) else some (⟨b1, o1 + k * 5, none⟩ : Addr)) = sq
                obtain ⟨AL, cl, rfl⟩ := own_sliceZ OL.out
                have RD := Lib.hid (RdZ.of_own OL.out (inR_length HL.out HKN.out))
                have GC := Lib.hid (good18 (inR zs k a l u f t) AL (n + 1) cl x19 (by have := HKN.out; omega) RD.out)
                have HBW := Lib.hid (HVV.out.trans (HB.out.mono HVV.out.size))
                cases hcv : cvB (inR zs k a l u f t) (n + 1)
                · rw [hcv] at GC
                  have HE := Lib.hid (HNO.out hcv)
                  have HV1 := Lib.hid (ciV_no HE.out)
                  have HN1 := Lib.hid (ciN_no HE.out)
                  clear hcv
                  go_wp2_with fail
                  refine GC.out.mono ?_
                  rintro e w8 ⟨rfl, hb8⟩
                  have BX := Lib.hid (HBW.out.trans (hb8.mono HBW.out.size))
                  clear hb8
                  have OX := Lib.hid (own_.own_base (own_emptyZ w8 26 5) BX.out.size)
                  have BY := Lib.hid (BX.out.alloc BX.out.size (.cells #[] 26))
                  go_wp2_with fail
                  go_ret2
                  exact ⟨_, by rw [HE.out]; rfl, by rw [HV1.out, HN1.out]; exact OX.out, BY.out⟩
                · rw [hcv] at GC
                  have HE := Lib.hid (HYE.out hcv)
                  have HV1 := Lib.hid (ciV_yes HE.out.1)
                  have HN1 := Lib.hid (ciN_yes HE.out.1)
                  rw [← HE.out.2] at HV1
                  clear hcv
                  go_wp2_with fail
                  refine GC.out.mono ?_
                  rintro e w8 ⟨rfl, hb8⟩
                  have BX := Lib.hid (HBW.out.trans (hb8.mono HBW.out.size))
                  have OX := Lib.hid (own_.own_base (own_.own_below OL.out hb8) HVV.out.size)
                  clear hb8
                  go_wp2_with fail
                  go_ret2
                  exact ⟨_, by rw [HE.out.1]; rfl, by rw [HV1.out, HN1.out]; exact OX.out, BX.out⟩
              · have SX := Lib.hid (lvle.at_next 26 #[.int .i64 a, .int .i64 l, .int .i64 u, .int .i64 f, .int .i64 t] HB.out)
                have NE := Lib.hid (fun g e => show g ≠ x15.heap.size from Nat.ne_of_lt (own_row_lt OL.out g e))
                have OL := Lib.hid (OL.out.alloc (.cells #[.int .i64 a, .int .i64 l, .int .i64 u, .int .i64 f, .int .i64 t] 26))
                have HB := Lib.hid (HB.out.alloc HB.out.size (.cells #[.int .i64 a, .int .i64 l, .int .i64 u, .int .i64 f, .int .i64 t] 26))
                go_simp
                generalize x15.alloc (.cells #[.int .i64 a, .int .i64 l, .int .i64 u, .int .i64 f, .int .i64 t] 26) = x20 at *
                generalize x15.heap.size = bx at *
                refine hK.out _ _ (CSx.out x20 HB.out) (fun hHeld => ?_)
                clear hK K
                try simp only [Act.put, List.getElem_toArray, List.getElem_cons_succ, List.getElem_cons_zero, List.setIfInBounds_toArray, List.set_cons_succ, List.set_cons_zero]
                refine wpAnyE_ready (rs := [4]) (by kernel_rfl) (by simp) ?_
                refine AllReadyE.cons (i := 4) rfl (by decide) (fun K hK => ?_) AllReadyE.nil
                refine step_append_rd rfl (.tmp 51) (.tmp 54) 24 rfl VV.heap.size 26 i0 (.agg #[.int .i64 0, .int .i64 0, .int .i64 0, .int .i64 0, .int .i64 0]) 40 Try.underlying24 hi hz0 hz1 hz2 rfl (.slice (some ⟨g0, 0, none⟩) 0 0) 0 [] rfl OL.out (B := w.heap.size) (A := some ⟨b1, o1, none⟩) (m := k) (c := c) (ns := zs.take (k * 5)) rfl (rd_take (HR.out.below (HVV.out.trans (HB.out.mono HVV.out.size)) (Nat.le_refl _)) HKN.out) (by unfold maxLen; have := HKN.out; omega) (by have := HKN.out; omega) HB.out.size ?_
                intro vx21 x21 oA gA nA
                rw [Nat.zero_add, List.nil_append] at oA
                have LX := Lib.hid (at_old SX.out)
                have SX := Lib.hid (at_own SX.out OL.out gA NE.out (Nat.le_refl _))
                have NE := Lib.hid (ne_own LX.out NE.out nA)
                have HB := Lib.hid (bl_own HB.out OL.out gA)
                have OL := Lib.hid oA
                clear oA gA nA
                refine hK.out _ _ (CSx.out x21 HB.out) (fun hHeld => ?_)
                clear hK K
                try simp only [Act.put, List.getElem_toArray, List.getElem_cons_succ, List.getElem_cons_zero, List.setIfInBounds_toArray, List.set_cons_succ, List.set_cons_zero]
                refine wpAnyE_ready (rs := [7]) (by kernel_rfl) (by simp) ?_
                refine AllReadyE.cons (i := 7) rfl (by decide) (fun K hK => ?_) AllReadyE.nil
                refine step_append_sz rfl (.tmp 55) (.tmp 57) 24 rfl VV.heap.size 26 i0 (.agg #[.int .i64 0, .int .i64 0, .int .i64 0, .int .i64 0, .int .i64 0]) 5 40 Try.underlying24 hi hz0 hz1 hz2 rfl (by decide) vx21 k (cellsI (zs.take (k * 5))) rfl OL.out ⟨bx, 0, none⟩ 1 1 [.int .i64 a, .int .i64 l, .int .i64 u, .int .i64 f, .int .i64 t] rfl rfl (fun j u hu => by rw [Addr.add_lit, Nat.zero_add]; exact (SX.out.cell j).trans (by simpa using hu)) (five_cells _ _ _ _ _) (by unfold maxLen; have := HKN.out; omega) (by have := HKN.out; omega) HB.out.size ?_
                intro vx22 x22 oA gA nA
                have LX := Lib.hid (at_old SX.out)
                have SX := Lib.hid (at_own SX.out OL.out gA NE.out (Nat.le_refl _))
                have NE := Lib.hid (ne_own LX.out NE.out nA)
                have HB := Lib.hid (bl_own HB.out OL.out gA)
                have OL := Lib.hid oA
                clear oA gA nA
                refine hK.out _ _ (CSx.out x22 HB.out) (fun hHeld => ?_)
                clear hK K
                try simp only [Act.put, List.getElem_toArray, List.getElem_cons_succ, List.getElem_cons_zero, List.setIfInBounds_toArray, List.set_cons_succ, List.set_cons_zero]
                refine wpAnyE_ready (rs := [11]) (by kernel_rfl) (by simp) ?_
                refine AllReadyE.cons (i := 11) rfl (by decide) (fun K hK => ?_) AllReadyE.nil
                refine step_append_rd rfl (.tmp 58) (.tmp 61) 24 rfl VV.heap.size 26 i0 (.agg #[.int .i64 0, .int .i64 0, .int .i64 0, .int .i64 0, .int .i64 0]) 40 Try.underlying24 hi hz0 hz1 hz2 rfl vx22 (k + 1) (cellsI (zs.take (k * 5)) ++ [.int .i64 a, .int .i64 l, .int .i64 u, .int .i64 f, .int .i64 t]) rfl OL.out (B := w.heap.size) (A := if c = k then some (⟨b1, o1, none⟩ : Addr) else some (⟨b1, o1 + k * 5, none⟩ : Addr)) (m := n - k) (c := c - k) (ns := zs.drop (k * 5)) rfl (rd_dropS (HR.out.below (HVV.out.trans (HB.out.mono HVV.out.size)) (Nat.le_refl _)) HKN.out HC.out) (by unfold maxLen; have := HKN.out; omega) (by have := HKN.out; omega) HB.out.size ?_
                intro vx23 x23 oA gA nA
                rw [row_done, show k + 1 + (n - k) = n + 1 by have := HKN.out; omega] at oA
                have HB := Lib.hid (bl_own HB.out OL.out gA)
                have OL := Lib.hid oA
                clear oA gA nA
                refine hK.out _ _ (CSx.out x23 HB.out) (fun hHeld => ?_)
                clear hK K
                try simp only [Act.put, List.getElem_toArray, List.getElem_cons_succ, List.getElem_cons_zero, List.setIfInBounds_toArray, List.set_cons_succ, List.set_cons_zero]
                refine wpAnyE_ready (rs := [12]) (by kernel_rfl) (by simp) ?_
                refine AllReadyE.last (i := 12) rfl rfl (fun K hK => ?_)
                go_simp
                refine hK.out _ _ ?_
                clear hK K
                try simp only [Act.put, List.getElem_toArray, List.getElem_cons_succ, List.getElem_cons_zero, List.setIfInBounds_toArray, List.set_cons_succ, List.set_cons_zero]
                refine wpAnyE_done (by kernel_rfl) ?_ _
                try simp only [List.getElem_toArray, List.getElem_cons_succ, List.getElem_cons_zero, List.setIfInBounds_toArray, List.set_cons_succ, List.set_cons_zero]
                generalize (if c = k then some (⟨b1, o1, none⟩ : Addr) else some (⟨b1, o1 + k * 5, none⟩ : Addr)) = sq
                obtain ⟨AL, cl, rfl⟩ := own_sliceZ OL.out
                have RD := Lib.hid (RdZ.of_own OL.out (inR_length HL.out HKN.out))
                have GC := Lib.hid (good18 (inR zs k a l u f t) AL (n + 1) cl x23 (by have := HKN.out; omega) RD.out)
                have HBW := Lib.hid (HVV.out.trans (HB.out.mono HVV.out.size))
                cases hcv : cvB (inR zs k a l u f t) (n + 1)
                · rw [hcv] at GC
                  have HE := Lib.hid (HNO.out hcv)
                  have HV1 := Lib.hid (ciV_no HE.out)
                  have HN1 := Lib.hid (ciN_no HE.out)
                  clear hcv
                  go_wp2_with fail
                  refine GC.out.mono ?_
                  rintro e w8 ⟨rfl, hb8⟩
                  have BX := Lib.hid (HBW.out.trans (hb8.mono HBW.out.size))
                  clear hb8
                  have OX := Lib.hid (own_.own_base (own_emptyZ w8 26 5) BX.out.size)
                  have BY := Lib.hid (BX.out.alloc BX.out.size (.cells #[] 26))
                  go_wp2_with fail
                  go_ret2
                  exact ⟨_, by rw [HE.out]; rfl, by rw [HV1.out, HN1.out]; exact OX.out, BY.out⟩
                · rw [hcv] at GC
                  have HE := Lib.hid (HYE.out hcv)
                  have HV1 := Lib.hid (ciV_yes HE.out.1)
                  have HN1 := Lib.hid (ciN_yes HE.out.1)
                  rw [← HE.out.2] at HV1
                  clear hcv
                  go_wp2_with fail
                  refine GC.out.mono ?_
                  rintro e w8 ⟨rfl, hb8⟩
                  have BX := Lib.hid (HBW.out.trans (hb8.mono HBW.out.size))
                  have OX := Lib.hid (own_.own_base (own_.own_below OL.out hb8) HVV.out.size)
                  clear hb8
                  go_wp2_with fail
                  go_ret2
                  exact ⟨_, by rw [HE.out.1]; rfl, by rw [HV1.out, HN1.out]; exact OX.out, BX.out⟩
            · have SX := Lib.hid (lvle.at_next 26 #[.int .i64 a, .int .i64 l, .int .i64 u, .int .i64 f, .int .i64 t] HB.out)
              have HB := Lib.hid (HB.out.alloc HB.out.size (.cells #[.int .i64 a, .int .i64 l, .int .i64 u, .int .i64 f, .int .i64 t] 26))
              go_simp
              generalize F0.alloc (.cells #[.int .i64 a, .int .i64 l, .int .i64 u, .int .i64 f, .int .i64 t] 26) = x24 at *
              generalize F0.heap.size = bx at *
              refine hK.out _ _ (CSx.out x24 HB.out) (fun hHeld => ?_)
              clear hK K
              try simp only [Act.put, List.getElem_toArray, List.getElem_cons_succ, List.getElem_cons_zero, List.setIfInBounds_toArray, List.set_cons_succ, List.set_cons_zero]
              refine wpAnyE_ready (rs := [0]) (by kernel_rfl) (by simp) ?_
              refine AllReadyE.cons (i := 0) rfl (by decide) (fun K hK => ?_) AllReadyE.nil
              have OL := Lib.hid (own_new HB.out 26)
              have LX := Lib.hid (at_old SX.out)
              have SX := Lib.hid (SX.out.alloc (.cells #[] 26))
              have NE := Lib.hid (fun g (e : Value.ownBlock (.slice (some ⟨x24.heap.size, 0, none⟩) 0 0) = some g) => show g ≠ bx by have := LX.out; injection e with e; simp at e; omega)
              have HB := Lib.hid (HB.out.alloc HB.out.size (.cells #[] 26))
              go_simp
              generalize x24.alloc (.cells #[] 26) = x25 at *
              generalize x24.heap.size = g0 at *
              refine hK.out _ _ (CSx.out x25 HB.out) (fun hHeld => ?_)
              clear hK K
              try simp only [Act.put, List.getElem_toArray, List.getElem_cons_succ, List.getElem_cons_zero, List.setIfInBounds_toArray, List.set_cons_succ, List.set_cons_zero]
              refine wpAnyE_ready (rs := [4]) (by kernel_rfl) (by simp) ?_
              refine AllReadyE.cons (i := 4) rfl (by decide) (fun K hK => ?_) AllReadyE.nil
              refine step_append_rd rfl (.tmp 51) (.tmp 54) 24 rfl VV.heap.size 26 i0 (.agg #[.int .i64 0, .int .i64 0, .int .i64 0, .int .i64 0, .int .i64 0]) 40 Try.underlying24 hi hz0 hz1 hz2 rfl (.slice (some ⟨g0, 0, none⟩) 0 0) 0 [] rfl OL.out (B := w.heap.size) (A := some ⟨b1, o1, none⟩) (m := k) (c := c) (ns := zs.take (k * 5)) rfl (rd_take (HR.out.below (HVV.out.trans (HB.out.mono HVV.out.size)) (Nat.le_refl _)) HKN.out) (by unfold maxLen; have := HKN.out; omega) (by have := HKN.out; omega) HB.out.size ?_
              intro vx26 x26 oA gA nA
              rw [Nat.zero_add, List.nil_append] at oA
              have LX := Lib.hid (at_old SX.out)
              have SX := Lib.hid (at_own SX.out OL.out gA NE.out (Nat.le_refl _))
              have NE := Lib.hid (ne_own LX.out NE.out nA)
              have HB := Lib.hid (bl_own HB.out OL.out gA)
              have OL := Lib.hid oA
              clear oA gA nA
              refine hK.out _ _ (CSx.out x26 HB.out) (fun hHeld => ?_)
              clear hK K
              try simp only [Act.put, List.getElem_toArray, List.getElem_cons_succ, List.getElem_cons_zero, List.setIfInBounds_toArray, List.set_cons_succ, List.set_cons_zero]
              refine wpAnyE_ready (rs := [7]) (by kernel_rfl) (by simp) ?_
              refine AllReadyE.cons (i := 7) rfl (by decide) (fun K hK => ?_) AllReadyE.nil
              refine step_append_sz rfl (.tmp 55) (.tmp 57) 24 rfl VV.heap.size 26 i0 (.agg #[.int .i64 0, .int .i64 0, .int .i64 0, .int .i64 0, .int .i64 0]) 5 40 Try.underlying24 hi hz0 hz1 hz2 rfl (by decide) vx26 k (cellsI (zs.take (k * 5))) rfl OL.out ⟨bx, 0, none⟩ 1 1 [.int .i64 a, .int .i64 l, .int .i64 u, .int .i64 f, .int .i64 t] rfl rfl (fun j u hu => by rw [Addr.add_lit, Nat.zero_add]; exact (SX.out.cell j).trans (by simpa using hu)) (five_cells _ _ _ _ _) (by unfold maxLen; have := HKN.out; omega) (by have := HKN.out; omega) HB.out.size ?_
              intro vx27 x27 oA gA nA
              have LX := Lib.hid (at_old SX.out)
              have SX := Lib.hid (at_own SX.out OL.out gA NE.out (Nat.le_refl _))
              have NE := Lib.hid (ne_own LX.out NE.out nA)
              have HB := Lib.hid (bl_own HB.out OL.out gA)
              have OL := Lib.hid oA
              clear oA gA nA
              refine hK.out _ _ (CSx.out x27 HB.out) (fun hHeld => ?_)
              clear hK K
              try simp only [Act.put, List.getElem_toArray, List.getElem_cons_succ, List.getElem_cons_zero, List.setIfInBounds_toArray, List.set_cons_succ, List.set_cons_zero]
              refine wpAnyE_ready (rs := [11]) (by kernel_rfl) (by simp) ?_
              refine AllReadyE.cons (i := 11) rfl (by decide) (fun K hK => ?_) AllReadyE.nil
              refine step_append_rd rfl (.tmp 58) (.tmp 61) 24 rfl VV.heap.size 26 i0 (.agg #[.int .i64 0, .int .i64 0, .int .i64 0, .int .i64 0, .int .i64 0]) 40 Try.underlying24 hi hz0 hz1 hz2 rfl vx27 (k + 1) (cellsI (zs.take (k * 5)) ++ [.int .i64 a, .int .i64 l, .int .i64 u, .int .i64 f, .int .i64 t]) rfl OL.out (B := w.heap.size) (A := if c = k then some (⟨b1, o1, none⟩ : Addr) else some (⟨b1, o1 + k * 5, none⟩ : Addr)) (m := n - k) (c := c - k) (ns := zs.drop (k * 5)) rfl (rd_dropS (HR.out.below (HVV.out.trans (HB.out.mono HVV.out.size)) (Nat.le_refl _)) HKN.out HC.out) (by unfold maxLen; have := HKN.out; omega) (by have := HKN.out; omega) HB.out.size ?_
              intro vx28 x28 oA gA nA
              rw [row_done, show k + 1 + (n - k) = n + 1 by have := HKN.out; omega] at oA
              have HB := Lib.hid (bl_own HB.out OL.out gA)
              have OL := Lib.hid oA
              clear oA gA nA
              refine hK.out _ _ (CSx.out x28 HB.out) (fun hHeld => ?_)
              clear hK K
              try simp only [Act.put, List.getElem_toArray, List.getElem_cons_succ, List.getElem_cons_zero, List.setIfInBounds_toArray, List.set_cons_succ, List.set_cons_zero]
              refine wpAnyE_ready (rs := [12]) (by kernel_rfl) (by simp) ?_
              refine AllReadyE.last (i := 12) rfl rfl (fun K hK => ?_)
              go_simp
              refine hK.out _ _ ?_
              clear hK K
              try simp only [Act.put, List.getElem_toArray, List.getElem_cons_succ, List.getElem_cons_zero, List.setIfInBounds_toArray, List.set_cons_succ, List.set_cons_zero]
              refine wpAnyE_done (by kernel_rfl) ?_ _
              try simp only [List.getElem_toArray, List.getElem_cons_succ, List.getElem_cons_zero, List.setIfInBounds_toArray, List.set_cons_succ, List.set_cons_zero]
              generalize (if c = k then some (⟨b1, o1, none⟩ : Addr) else some (⟨b1, o1 + k * 5, none⟩ : Addr)) = sq
              obtain ⟨AL, cl, rfl⟩ := own_sliceZ OL.out
              have RD := Lib.hid (RdZ.of_own OL.out (inR_length HL.out HKN.out))
              have GC := Lib.hid (good18 (inR zs k a l u f t) AL (n + 1) cl x28 (by have := HKN.out; omega) RD.out)
              have HBW := Lib.hid (HVV.out.trans (HB.out.mono HVV.out.size))
              cases hcv : cvB (inR zs k a l u f t) (n + 1)
              · rw [hcv] at GC
                have HE := Lib.hid (HNO.out hcv)
                have HV1 := Lib.hid (ciV_no HE.out)
                have HN1 := Lib.hid (ciN_no HE.out)
                clear hcv
                go_wp2_with fail
                refine GC.out.mono ?_
                rintro e w8 ⟨rfl, hb8⟩
                have BX := Lib.hid (HBW.out.trans (hb8.mono HBW.out.size))
                clear hb8
                have OX := Lib.hid (own_.own_base (own_emptyZ w8 26 5) BX.out.size)
                have BY := Lib.hid (BX.out.alloc BX.out.size (.cells #[] 26))
                go_wp2_with fail
                go_ret2
                exact ⟨_, by rw [HE.out]; rfl, by rw [HV1.out, HN1.out]; exact OX.out, BY.out⟩
              · rw [hcv] at GC
                have HE := Lib.hid (HYE.out hcv)
                have HV1 := Lib.hid (ciV_yes HE.out.1)
                have HN1 := Lib.hid (ciN_yes HE.out.1)
                rw [← HE.out.2] at HV1
                clear hcv
                go_wp2_with fail
                refine GC.out.mono ?_
                rintro e w8 ⟨rfl, hb8⟩
                have BX := Lib.hid (HBW.out.trans (hb8.mono HBW.out.size))
                have OX := Lib.hid (own_.own_base (own_.own_below OL.out hb8) HVV.out.size)
                clear hb8
                go_wp2_with fail
                go_ret2
                exact ⟨_, by rw [HE.out.1]; rfl, by rw [HV1.out, HN1.out]; exact OX.out, BX.out⟩
        · have g1b : (v0 == a) = false := beq_eq_false_iff_ne.mpr g1
          have HGT := Lib.hid (show gtK zs a f p = false by rw [HG.out, decide_eq_false g0, decide_eq_false g1]; rfl)
          clear g0 g1
          have HPL := Lib.hid (HNS.out HGT.out)
          clear HYS HNS HG HGT
          subst eA
          go_upto_region 4 with fail
          have c00' := fun d0 os => cell_regrown c00 d0 os
          have c03' := fun d0 os => cell_regrown c03 d0 os
          have q0' := fun d0 os => cell_regrown q0 d0 os
          have q3' := fun d0 os => cell_regrown q3 d0 os
          clear c00 c03 q0 q3
          refine wp_region_quiet_below (by kernel_rfl) (by kernel_rfl) ?_
          repeat (
            with_reducible refine wpQuiet_step (fun K hK => ?_)
            go_simp
            refine hK _ ?_; clear hK K)
          with_reducible refine wpQuiet_nil ?_
          intro _ hw'
          obtain ⟨⟨dq, osq⟩, hw''⟩ := hw'
          subst hw''
          have hbl := (below_regrown wr dq osq)
          clear c00' c03' q0' q3'
          generalize Sort.grow (redrawn wr dq) osq = VV at *
          have B3 := Lib.hid (HB0.out.trans (hbl.mono HB0.out.size))
          clear hbl
          have HNO := Lib.hid (fun (h : cvB (inR zs k a l u f t) (n + 1) = false) => show ciB zs n a l u f t = false by rw [← ci_spec HL.out, HPL.out, h, Bool.and_false])
          have HYE := Lib.hid (fun (h : cvB (inR zs k a l u f t) (n + 1) = true) => show ciB zs n a l u f t = true ∧ k = ldI zs n a f from by
            have h1 : ciB zs n a l u f t = true := by rw [← ci_spec HL.out, HPL.out, h, HCV.out]; rfl
            exact ⟨h1, HPL.out.symm.trans (ci_place HL.out h1)⟩)
          have k0 : (0 : Int) ≤ (k : Int) := Int.natCast_nonneg _
          have k1 : (k : Int) ≤ (c : Int) := by have := HKN.out; have := HC.out; omega
          have k2 : (k : Int) ≤ (n : Int) := by have := HKN.out; omega
          have k3 : (n : Int) ≤ (c : Int) := by have := HC.out; omega
          have S3 := Lib.hid (S1.out.old B3.out)
          have HVV := Lib.hid S3.out.1
          go_upto_region 6 with fail
          have CSx := Lib.hid (show ∀ WZ : World, Below VV.heap.size VV WZ → (World.cell? WZ ⟨w.heap.size, 0, none⟩ = some (.int .i64 a) ∧ World.cell? WZ ⟨w.heap.size, 1, none⟩ = some (.int .i64 l) ∧ World.cell? WZ ⟨w.heap.size, 2, none⟩ = some (.int .i64 u) ∧ World.cell? WZ ⟨w.heap.size, 3, none⟩ = some (.int .i64 f) ∧ World.cell? WZ ⟨w.heap.size, 4, none⟩ = some (.int .i64 t)) from fun WZ hz => ⟨(S3.out.old hz).cell 0, (S3.out.old hz).cell 1, (S3.out.old hz).cell 2, (S3.out.old hz).cell 3, (S3.out.old hz).cell 4⟩)
          have HB := Lib.hid ((Below.refl VV.heap.size VV).drew)
          have HSa := Lib.hid (CSx.out _ HB.out)
          refine wp_region_tail (S := fun w' => World.cell? w' ⟨w.heap.size, 0, none⟩ = some (.int .i64 a) ∧ World.cell? w' ⟨w.heap.size, 1, none⟩ = some (.int .i64 l) ∧ World.cell? w' ⟨w.heap.size, 2, none⟩ = some (.int .i64 u) ∧ World.cell? w' ⟨w.heap.size, 3, none⟩ = some (.int .i64 f) ∧ World.cell? w' ⟨w.heap.size, 4, none⟩ = some (.int .i64 t)) 12 (by kernel_rfl) HSa.out (fun hHeld => ?_)
          generalize VV.drew = F0 at *
          try simp only [Act.put, List.getElem_toArray, List.getElem_cons_succ, List.getElem_cons_zero, List.setIfInBounds_toArray, List.set_cons_succ, List.set_cons_zero]
          refine wpAnyE_take (i := 1) (v := ?vt9_1) rfl (by decide +kernel) (fun _ _ _ h => h) (Or.inl ⟨by first | rfl | kernel_rfl, ?ht9_1⟩) (by assumption) ?rt9_1
          case ht9_1 =>
            intro wS hSw
            obtain ⟨h0, h1, h2, h3, h4⟩ := hSw
            go_simp
            try with_reducible rfl
          try simp only [Act.put, List.getElem_toArray, List.getElem_cons_succ, List.getElem_cons_zero, List.setIfInBounds_toArray, List.set_cons_succ, List.set_cons_zero]
          refine wpAnyE_take (i := 2) (v := ?vt9_2) rfl (by decide +kernel) (fun _ _ _ h => h) (Or.inl ⟨by first | rfl | kernel_rfl, ?ht9_2⟩) (by assumption) ?rt9_2
          case ht9_2 =>
            intro wS hSw
            obtain ⟨h0, h1, h2, h3, h4⟩ := hSw
            go_simp
            try with_reducible rfl
          try simp only [Act.put, List.getElem_toArray, List.getElem_cons_succ, List.getElem_cons_zero, List.setIfInBounds_toArray, List.set_cons_succ, List.set_cons_zero]
          refine wpAnyE_take (i := 3) (v := ?vt9_3) rfl (by decide +kernel) (fun _ _ _ h => h) (Or.inl ⟨by first | rfl | kernel_rfl, ?ht9_3⟩) (by assumption) ?rt9_3
          case ht9_3 =>
            intro wS hSw
            obtain ⟨h0, h1, h2, h3, h4⟩ := hSw
            go_simp
            try with_reducible rfl
          try simp only [Act.put, List.getElem_toArray, List.getElem_cons_succ, List.getElem_cons_zero, List.setIfInBounds_toArray, List.set_cons_succ, List.set_cons_zero]
          refine wpAnyE_take (i := 5) (v := ?vt9_5) rfl (by decide +kernel) (fun _ _ _ h => h) (Or.inl ⟨by first | rfl | kernel_rfl, ?ht9_5⟩) (by assumption) ?rt9_5
          case ht9_5 =>
            intro wS hSw
            obtain ⟨h0, h1, h2, h3, h4⟩ := hSw
            go_simp
            try with_reducible rfl
          try simp only [Act.put, List.getElem_toArray, List.getElem_cons_succ, List.getElem_cons_zero, List.setIfInBounds_toArray, List.set_cons_succ, List.set_cons_zero]
          refine wpAnyE_take (i := 8) (v := ?vt9_8) rfl (by decide +kernel) (fun _ _ _ h => h) (Or.inl ⟨by first | rfl | kernel_rfl, ?ht9_8⟩) (by assumption) ?rt9_8
          case ht9_8 =>
            intro wS hSw
            obtain ⟨h0, h1, h2, h3, h4⟩ := hSw
            go_simp
            try with_reducible rfl
          try simp only [Act.put, List.getElem_toArray, List.getElem_cons_succ, List.getElem_cons_zero, List.setIfInBounds_toArray, List.set_cons_succ, List.set_cons_zero]
          refine wpAnyE_take (i := 9) (v := ?vt9_9) rfl (by decide +kernel) (fun _ _ _ h => h) (Or.inl ⟨by first | rfl | kernel_rfl, ?ht9_9⟩) (by assumption) ?rt9_9
          case ht9_9 =>
            intro wS hSw
            obtain ⟨h0, h1, h2, h3, h4⟩ := hSw
            go_simp
            try with_reducible rfl
          try simp only [Act.put, List.getElem_toArray, List.getElem_cons_succ, List.getElem_cons_zero, List.setIfInBounds_toArray, List.set_cons_succ, List.set_cons_zero]
          refine wpAnyE_take (i := 10) (v := ?vt9_10) rfl (by decide +kernel) (fun _ _ _ h => h) (Or.inl ⟨by first | rfl | kernel_rfl, ?ht9_10⟩) (by assumption) ?rt9_10
          case ht9_10 =>
            intro wS hSw
            obtain ⟨h0, h1, h2, h3, h4⟩ := hSw
            go_simp
            try with_reducible rfl
          try simp only [Act.put, List.getElem_toArray, List.getElem_cons_succ, List.getElem_cons_zero, List.setIfInBounds_toArray, List.set_cons_succ, List.set_cons_zero]
          refine wpAnyE_ready (rs := [0, 6]) (by kernel_rfl) (by simp) ?_
          refine AllReadyE.cons (i := 0) rfl (by decide) (fun K hK => ?_) (AllReadyE.cons (i := 6) rfl (by decide) (fun K hK => ?_) AllReadyE.nil)
          · have OL := Lib.hid (own_new HB.out 26)
            have HB := Lib.hid (HB.out.alloc HB.out.size (.cells #[] 26))
            go_simp
            generalize F0.alloc (.cells #[] 26) = x29 at *
            generalize F0.heap.size = g0 at *
            refine hK.out _ _ (CSx.out x29 HB.out) (fun hHeld => ?_)
            clear hK K
            try simp only [Act.put, List.getElem_toArray, List.getElem_cons_succ, List.getElem_cons_zero, List.setIfInBounds_toArray, List.set_cons_succ, List.set_cons_zero]
            refine wpAnyE_ready (rs := [4, 6]) (by kernel_rfl) (by simp) ?_
            refine AllReadyE.cons (i := 4) rfl (by decide) (fun K hK => ?_) (AllReadyE.cons (i := 6) rfl (by decide) (fun K hK => ?_) AllReadyE.nil)
            · refine step_append_rd rfl (.tmp 51) (.tmp 54) 24 rfl VV.heap.size 26 i0 (.agg #[.int .i64 0, .int .i64 0, .int .i64 0, .int .i64 0, .int .i64 0]) 40 Try.underlying24 hi hz0 hz1 hz2 rfl (.slice (some ⟨g0, 0, none⟩) 0 0) 0 [] rfl OL.out (B := w.heap.size) (A := some ⟨b1, o1, none⟩) (m := k) (c := c) (ns := zs.take (k * 5)) rfl (rd_take (HR.out.below (HVV.out.trans (HB.out.mono HVV.out.size)) (Nat.le_refl _)) HKN.out) (by unfold maxLen; have := HKN.out; omega) (by have := HKN.out; omega) HB.out.size ?_
              intro vx30 x30 oA gA nA
              rw [Nat.zero_add, List.nil_append] at oA
              have HB := Lib.hid (bl_own HB.out OL.out gA)
              have OL := Lib.hid oA
              clear oA gA nA
              refine hK.out _ _ (CSx.out x30 HB.out) (fun hHeld => ?_)
              clear hK K
              try simp only [Act.put, List.getElem_toArray, List.getElem_cons_succ, List.getElem_cons_zero, List.setIfInBounds_toArray, List.set_cons_succ, List.set_cons_zero]
              refine wpAnyE_ready (rs := [6]) (by kernel_rfl) (by simp) ?_
              refine AllReadyE.cons (i := 6) rfl (by decide) (fun K hK => ?_) AllReadyE.nil
              have SX := Lib.hid (lvle.at_next 26 #[.int .i64 a, .int .i64 l, .int .i64 u, .int .i64 f, .int .i64 t] HB.out)
              have NE := Lib.hid (fun g e => show g ≠ x30.heap.size from Nat.ne_of_lt (own_row_lt OL.out g e))
              have OL := Lib.hid (OL.out.alloc (.cells #[.int .i64 a, .int .i64 l, .int .i64 u, .int .i64 f, .int .i64 t] 26))
              have HB := Lib.hid (HB.out.alloc HB.out.size (.cells #[.int .i64 a, .int .i64 l, .int .i64 u, .int .i64 f, .int .i64 t] 26))
              go_simp
              generalize x30.alloc (.cells #[.int .i64 a, .int .i64 l, .int .i64 u, .int .i64 f, .int .i64 t] 26) = x31 at *
              generalize x30.heap.size = bx at *
              refine hK.out _ _ (CSx.out x31 HB.out) (fun hHeld => ?_)
              clear hK K
              try simp only [Act.put, List.getElem_toArray, List.getElem_cons_succ, List.getElem_cons_zero, List.setIfInBounds_toArray, List.set_cons_succ, List.set_cons_zero]
              refine wpAnyE_ready (rs := [7]) (by kernel_rfl) (by simp) ?_
              refine AllReadyE.cons (i := 7) rfl (by decide) (fun K hK => ?_) AllReadyE.nil
              refine step_append_sz rfl (.tmp 55) (.tmp 57) 24 rfl VV.heap.size 26 i0 (.agg #[.int .i64 0, .int .i64 0, .int .i64 0, .int .i64 0, .int .i64 0]) 5 40 Try.underlying24 hi hz0 hz1 hz2 rfl (by decide) vx30 k (cellsI (zs.take (k * 5))) rfl OL.out ⟨bx, 0, none⟩ 1 1 [.int .i64 a, .int .i64 l, .int .i64 u, .int .i64 f, .int .i64 t] rfl rfl (fun j u hu => by rw [Addr.add_lit, Nat.zero_add]; exact (SX.out.cell j).trans (by simpa using hu)) (five_cells _ _ _ _ _) (by unfold maxLen; have := HKN.out; omega) (by have := HKN.out; omega) HB.out.size ?_
              intro vx32 x32 oA gA nA
              have LX := Lib.hid (at_old SX.out)
              have SX := Lib.hid (at_own SX.out OL.out gA NE.out (Nat.le_refl _))
              have NE := Lib.hid (ne_own LX.out NE.out nA)
              have HB := Lib.hid (bl_own HB.out OL.out gA)
              have OL := Lib.hid oA
              clear oA gA nA
              refine hK.out _ _ (CSx.out x32 HB.out) (fun hHeld => ?_)
              clear hK K
              try simp only [Act.put, List.getElem_toArray, List.getElem_cons_succ, List.getElem_cons_zero, List.setIfInBounds_toArray, List.set_cons_succ, List.set_cons_zero]
              refine wpAnyE_ready (rs := [11]) (by kernel_rfl) (by simp) ?_
              refine AllReadyE.cons (i := 11) rfl (by decide) (fun K hK => ?_) AllReadyE.nil
              refine step_append_rd rfl (.tmp 58) (.tmp 61) 24 rfl VV.heap.size 26 i0 (.agg #[.int .i64 0, .int .i64 0, .int .i64 0, .int .i64 0, .int .i64 0]) 40 Try.underlying24 hi hz0 hz1 hz2 rfl vx32 (k + 1) (cellsI (zs.take (k * 5)) ++ [.int .i64 a, .int .i64 l, .int .i64 u, .int .i64 f, .int .i64 t]) rfl OL.out (B := w.heap.size) (A := if c = k then some (⟨b1, o1, none⟩ : Addr) else some (⟨b1, o1 + k * 5, none⟩ : Addr)) (m := n - k) (c := c - k) (ns := zs.drop (k * 5)) rfl (rd_dropS (HR.out.below (HVV.out.trans (HB.out.mono HVV.out.size)) (Nat.le_refl _)) HKN.out HC.out) (by unfold maxLen; have := HKN.out; omega) (by have := HKN.out; omega) HB.out.size ?_
              intro vx33 x33 oA gA nA
              rw [row_done, show k + 1 + (n - k) = n + 1 by have := HKN.out; omega] at oA
              have HB := Lib.hid (bl_own HB.out OL.out gA)
              have OL := Lib.hid oA
              clear oA gA nA
              refine hK.out _ _ (CSx.out x33 HB.out) (fun hHeld => ?_)
              clear hK K
              try simp only [Act.put, List.getElem_toArray, List.getElem_cons_succ, List.getElem_cons_zero, List.setIfInBounds_toArray, List.set_cons_succ, List.set_cons_zero]
              refine wpAnyE_ready (rs := [12]) (by kernel_rfl) (by simp) ?_
              refine AllReadyE.last (i := 12) rfl rfl (fun K hK => ?_)
              go_simp
              refine hK.out _ _ ?_
              clear hK K
              try simp only [Act.put, List.getElem_toArray, List.getElem_cons_succ, List.getElem_cons_zero, List.setIfInBounds_toArray, List.set_cons_succ, List.set_cons_zero]
              refine wpAnyE_done (by kernel_rfl) ?_ _
              try simp only [List.getElem_toArray, List.getElem_cons_succ, List.getElem_cons_zero, List.setIfInBounds_toArray, List.set_cons_succ, List.set_cons_zero]
              generalize (if c = k then some (⟨b1, o1, none⟩ : Addr) else some (⟨b1, o1 + k * 5, none⟩ : Addr)) = sq
              obtain ⟨AL, cl, rfl⟩ := own_sliceZ OL.out
              have RD := Lib.hid (RdZ.of_own OL.out (inR_length HL.out HKN.out))
              have GC := Lib.hid (good18 (inR zs k a l u f t) AL (n + 1) cl x33 (by have := HKN.out; omega) RD.out)
              have HBW := Lib.hid (HVV.out.trans (HB.out.mono HVV.out.size))
              cases hcv : cvB (inR zs k a l u f t) (n + 1)
              · rw [hcv] at GC
                have HE := Lib.hid (HNO.out hcv)
                have HV1 := Lib.hid (ciV_no HE.out)
                have HN1 := Lib.hid (ciN_no HE.out)
                clear hcv
                go_wp2_with fail
                refine GC.out.mono ?_
                rintro e w8 ⟨rfl, hb8⟩
                have BX := Lib.hid (HBW.out.trans (hb8.mono HBW.out.size))
                clear hb8
                have OX := Lib.hid (own_.own_base (own_emptyZ w8 26 5) BX.out.size)
                have BY := Lib.hid (BX.out.alloc BX.out.size (.cells #[] 26))
                go_wp2_with fail
                go_ret2
                exact ⟨_, by rw [HE.out]; rfl, by rw [HV1.out, HN1.out]; exact OX.out, BY.out⟩
              · rw [hcv] at GC
                have HE := Lib.hid (HYE.out hcv)
                have HV1 := Lib.hid (ciV_yes HE.out.1)
                have HN1 := Lib.hid (ciN_yes HE.out.1)
                rw [← HE.out.2] at HV1
                clear hcv
                go_wp2_with fail
                refine GC.out.mono ?_
                rintro e w8 ⟨rfl, hb8⟩
                have BX := Lib.hid (HBW.out.trans (hb8.mono HBW.out.size))
                have OX := Lib.hid (own_.own_base (own_.own_below OL.out hb8) HVV.out.size)
                clear hb8
                go_wp2_with fail
                go_ret2
                exact ⟨_, by rw [HE.out.1]; rfl, by rw [HV1.out, HN1.out]; exact OX.out, BX.out⟩
            · have SX := Lib.hid (lvle.at_next 26 #[.int .i64 a, .int .i64 l, .int .i64 u, .int .i64 f, .int .i64 t] HB.out)
              have NE := Lib.hid (fun g e => show g ≠ x29.heap.size from Nat.ne_of_lt (own_row_lt OL.out g e))
              have OL := Lib.hid (OL.out.alloc (.cells #[.int .i64 a, .int .i64 l, .int .i64 u, .int .i64 f, .int .i64 t] 26))
              have HB := Lib.hid (HB.out.alloc HB.out.size (.cells #[.int .i64 a, .int .i64 l, .int .i64 u, .int .i64 f, .int .i64 t] 26))
              go_simp
              generalize x29.alloc (.cells #[.int .i64 a, .int .i64 l, .int .i64 u, .int .i64 f, .int .i64 t] 26) = x34 at *
              generalize x29.heap.size = bx at *
              refine hK.out _ _ (CSx.out x34 HB.out) (fun hHeld => ?_)
              clear hK K
              try simp only [Act.put, List.getElem_toArray, List.getElem_cons_succ, List.getElem_cons_zero, List.setIfInBounds_toArray, List.set_cons_succ, List.set_cons_zero]
              refine wpAnyE_ready (rs := [4]) (by kernel_rfl) (by simp) ?_
              refine AllReadyE.cons (i := 4) rfl (by decide) (fun K hK => ?_) AllReadyE.nil
              refine step_append_rd rfl (.tmp 51) (.tmp 54) 24 rfl VV.heap.size 26 i0 (.agg #[.int .i64 0, .int .i64 0, .int .i64 0, .int .i64 0, .int .i64 0]) 40 Try.underlying24 hi hz0 hz1 hz2 rfl (.slice (some ⟨g0, 0, none⟩) 0 0) 0 [] rfl OL.out (B := w.heap.size) (A := some ⟨b1, o1, none⟩) (m := k) (c := c) (ns := zs.take (k * 5)) rfl (rd_take (HR.out.below (HVV.out.trans (HB.out.mono HVV.out.size)) (Nat.le_refl _)) HKN.out) (by unfold maxLen; have := HKN.out; omega) (by have := HKN.out; omega) HB.out.size ?_
              intro vx35 x35 oA gA nA
              rw [Nat.zero_add, List.nil_append] at oA
              have LX := Lib.hid (at_old SX.out)
              have SX := Lib.hid (at_own SX.out OL.out gA NE.out (Nat.le_refl _))
              have NE := Lib.hid (ne_own LX.out NE.out nA)
              have HB := Lib.hid (bl_own HB.out OL.out gA)
              have OL := Lib.hid oA
              clear oA gA nA
              refine hK.out _ _ (CSx.out x35 HB.out) (fun hHeld => ?_)
              clear hK K
              try simp only [Act.put, List.getElem_toArray, List.getElem_cons_succ, List.getElem_cons_zero, List.setIfInBounds_toArray, List.set_cons_succ, List.set_cons_zero]
              refine wpAnyE_ready (rs := [7]) (by kernel_rfl) (by simp) ?_
              refine AllReadyE.cons (i := 7) rfl (by decide) (fun K hK => ?_) AllReadyE.nil
              refine step_append_sz rfl (.tmp 55) (.tmp 57) 24 rfl VV.heap.size 26 i0 (.agg #[.int .i64 0, .int .i64 0, .int .i64 0, .int .i64 0, .int .i64 0]) 5 40 Try.underlying24 hi hz0 hz1 hz2 rfl (by decide) vx35 k (cellsI (zs.take (k * 5))) rfl OL.out ⟨bx, 0, none⟩ 1 1 [.int .i64 a, .int .i64 l, .int .i64 u, .int .i64 f, .int .i64 t] rfl rfl (fun j u hu => by rw [Addr.add_lit, Nat.zero_add]; exact (SX.out.cell j).trans (by simpa using hu)) (five_cells _ _ _ _ _) (by unfold maxLen; have := HKN.out; omega) (by have := HKN.out; omega) HB.out.size ?_
              intro vx36 x36 oA gA nA
              have LX := Lib.hid (at_old SX.out)
              have SX := Lib.hid (at_own SX.out OL.out gA NE.out (Nat.le_refl _))
              have NE := Lib.hid (ne_own LX.out NE.out nA)
              have HB := Lib.hid (bl_own HB.out OL.out gA)
              have OL := Lib.hid oA
              clear oA gA nA
              refine hK.out _ _ (CSx.out x36 HB.out) (fun hHeld => ?_)
              clear hK K
              try simp only [Act.put, List.getElem_toArray, List.getElem_cons_succ, List.getElem_cons_zero, List.setIfInBounds_toArray, List.set_cons_succ, List.set_cons_zero]
              refine wpAnyE_ready (rs := [11]) (by kernel_rfl) (by simp) ?_
              refine AllReadyE.cons (i := 11) rfl (by decide) (fun K hK => ?_) AllReadyE.nil
              refine step_append_rd rfl (.tmp 58) (.tmp 61) 24 rfl VV.heap.size 26 i0 (.agg #[.int .i64 0, .int .i64 0, .int .i64 0, .int .i64 0, .int .i64 0]) 40 Try.underlying24 hi hz0 hz1 hz2 rfl vx36 (k + 1) (cellsI (zs.take (k * 5)) ++ [.int .i64 a, .int .i64 l, .int .i64 u, .int .i64 f, .int .i64 t]) rfl OL.out (B := w.heap.size) (A := if c = k then some (⟨b1, o1, none⟩ : Addr) else some (⟨b1, o1 + k * 5, none⟩ : Addr)) (m := n - k) (c := c - k) (ns := zs.drop (k * 5)) rfl (rd_dropS (HR.out.below (HVV.out.trans (HB.out.mono HVV.out.size)) (Nat.le_refl _)) HKN.out HC.out) (by unfold maxLen; have := HKN.out; omega) (by have := HKN.out; omega) HB.out.size ?_
              intro vx37 x37 oA gA nA
              rw [row_done, show k + 1 + (n - k) = n + 1 by have := HKN.out; omega] at oA
              have HB := Lib.hid (bl_own HB.out OL.out gA)
              have OL := Lib.hid oA
              clear oA gA nA
              refine hK.out _ _ (CSx.out x37 HB.out) (fun hHeld => ?_)
              clear hK K
              try simp only [Act.put, List.getElem_toArray, List.getElem_cons_succ, List.getElem_cons_zero, List.setIfInBounds_toArray, List.set_cons_succ, List.set_cons_zero]
              refine wpAnyE_ready (rs := [12]) (by kernel_rfl) (by simp) ?_
              refine AllReadyE.last (i := 12) rfl rfl (fun K hK => ?_)
              go_simp
              refine hK.out _ _ ?_
              clear hK K
              try simp only [Act.put, List.getElem_toArray, List.getElem_cons_succ, List.getElem_cons_zero, List.setIfInBounds_toArray, List.set_cons_succ, List.set_cons_zero]
              refine wpAnyE_done (by kernel_rfl) ?_ _
              try simp only [List.getElem_toArray, List.getElem_cons_succ, List.getElem_cons_zero, List.setIfInBounds_toArray, List.set_cons_succ, List.set_cons_zero]
              generalize (if c = k then some (⟨b1, o1, none⟩ : Addr) else some (⟨b1, o1 + k * 5, none⟩ : Addr)) = sq
              obtain ⟨AL, cl, rfl⟩ := own_sliceZ OL.out
              have RD := Lib.hid (RdZ.of_own OL.out (inR_length HL.out HKN.out))
              have GC := Lib.hid (good18 (inR zs k a l u f t) AL (n + 1) cl x37 (by have := HKN.out; omega) RD.out)
              have HBW := Lib.hid (HVV.out.trans (HB.out.mono HVV.out.size))
              cases hcv : cvB (inR zs k a l u f t) (n + 1)
              · rw [hcv] at GC
                have HE := Lib.hid (HNO.out hcv)
                have HV1 := Lib.hid (ciV_no HE.out)
                have HN1 := Lib.hid (ciN_no HE.out)
                clear hcv
                go_wp2_with fail
                refine GC.out.mono ?_
                rintro e w8 ⟨rfl, hb8⟩
                have BX := Lib.hid (HBW.out.trans (hb8.mono HBW.out.size))
                clear hb8
                have OX := Lib.hid (own_.own_base (own_emptyZ w8 26 5) BX.out.size)
                have BY := Lib.hid (BX.out.alloc BX.out.size (.cells #[] 26))
                go_wp2_with fail
                go_ret2
                exact ⟨_, by rw [HE.out]; rfl, by rw [HV1.out, HN1.out]; exact OX.out, BY.out⟩
              · rw [hcv] at GC
                have HE := Lib.hid (HYE.out hcv)
                have HV1 := Lib.hid (ciV_yes HE.out.1)
                have HN1 := Lib.hid (ciN_yes HE.out.1)
                rw [← HE.out.2] at HV1
                clear hcv
                go_wp2_with fail
                refine GC.out.mono ?_
                rintro e w8 ⟨rfl, hb8⟩
                have BX := Lib.hid (HBW.out.trans (hb8.mono HBW.out.size))
                have OX := Lib.hid (own_.own_base (own_.own_below OL.out hb8) HVV.out.size)
                clear hb8
                go_wp2_with fail
                go_ret2
                exact ⟨_, by rw [HE.out.1]; rfl, by rw [HV1.out, HN1.out]; exact OX.out, BX.out⟩
          · have SX := Lib.hid (lvle.at_next 26 #[.int .i64 a, .int .i64 l, .int .i64 u, .int .i64 f, .int .i64 t] HB.out)
            have HB := Lib.hid (HB.out.alloc HB.out.size (.cells #[.int .i64 a, .int .i64 l, .int .i64 u, .int .i64 f, .int .i64 t] 26))
            go_simp
            generalize F0.alloc (.cells #[.int .i64 a, .int .i64 l, .int .i64 u, .int .i64 f, .int .i64 t] 26) = x38 at *
            generalize F0.heap.size = bx at *
            refine hK.out _ _ (CSx.out x38 HB.out) (fun hHeld => ?_)
            clear hK K
            try simp only [Act.put, List.getElem_toArray, List.getElem_cons_succ, List.getElem_cons_zero, List.setIfInBounds_toArray, List.set_cons_succ, List.set_cons_zero]
            refine wpAnyE_ready (rs := [0]) (by kernel_rfl) (by simp) ?_
            refine AllReadyE.cons (i := 0) rfl (by decide) (fun K hK => ?_) AllReadyE.nil
            have OL := Lib.hid (own_new HB.out 26)
            have LX := Lib.hid (at_old SX.out)
            have SX := Lib.hid (SX.out.alloc (.cells #[] 26))
            have NE := Lib.hid (fun g (e : Value.ownBlock (.slice (some ⟨x38.heap.size, 0, none⟩) 0 0) = some g) => show g ≠ bx by have := LX.out; injection e with e; simp at e; omega)
            have HB := Lib.hid (HB.out.alloc HB.out.size (.cells #[] 26))
            go_simp
            generalize x38.alloc (.cells #[] 26) = x39 at *
            generalize x38.heap.size = g0 at *
            refine hK.out _ _ (CSx.out x39 HB.out) (fun hHeld => ?_)
            clear hK K
            try simp only [Act.put, List.getElem_toArray, List.getElem_cons_succ, List.getElem_cons_zero, List.setIfInBounds_toArray, List.set_cons_succ, List.set_cons_zero]
            refine wpAnyE_ready (rs := [4]) (by kernel_rfl) (by simp) ?_
            refine AllReadyE.cons (i := 4) rfl (by decide) (fun K hK => ?_) AllReadyE.nil
            refine step_append_rd rfl (.tmp 51) (.tmp 54) 24 rfl VV.heap.size 26 i0 (.agg #[.int .i64 0, .int .i64 0, .int .i64 0, .int .i64 0, .int .i64 0]) 40 Try.underlying24 hi hz0 hz1 hz2 rfl (.slice (some ⟨g0, 0, none⟩) 0 0) 0 [] rfl OL.out (B := w.heap.size) (A := some ⟨b1, o1, none⟩) (m := k) (c := c) (ns := zs.take (k * 5)) rfl (rd_take (HR.out.below (HVV.out.trans (HB.out.mono HVV.out.size)) (Nat.le_refl _)) HKN.out) (by unfold maxLen; have := HKN.out; omega) (by have := HKN.out; omega) HB.out.size ?_
            intro vx40 x40 oA gA nA
            rw [Nat.zero_add, List.nil_append] at oA
            have LX := Lib.hid (at_old SX.out)
            have SX := Lib.hid (at_own SX.out OL.out gA NE.out (Nat.le_refl _))
            have NE := Lib.hid (ne_own LX.out NE.out nA)
            have HB := Lib.hid (bl_own HB.out OL.out gA)
            have OL := Lib.hid oA
            clear oA gA nA
            refine hK.out _ _ (CSx.out x40 HB.out) (fun hHeld => ?_)
            clear hK K
            try simp only [Act.put, List.getElem_toArray, List.getElem_cons_succ, List.getElem_cons_zero, List.setIfInBounds_toArray, List.set_cons_succ, List.set_cons_zero]
            refine wpAnyE_ready (rs := [7]) (by kernel_rfl) (by simp) ?_
            refine AllReadyE.cons (i := 7) rfl (by decide) (fun K hK => ?_) AllReadyE.nil
            refine step_append_sz rfl (.tmp 55) (.tmp 57) 24 rfl VV.heap.size 26 i0 (.agg #[.int .i64 0, .int .i64 0, .int .i64 0, .int .i64 0, .int .i64 0]) 5 40 Try.underlying24 hi hz0 hz1 hz2 rfl (by decide) vx40 k (cellsI (zs.take (k * 5))) rfl OL.out ⟨bx, 0, none⟩ 1 1 [.int .i64 a, .int .i64 l, .int .i64 u, .int .i64 f, .int .i64 t] rfl rfl (fun j u hu => by rw [Addr.add_lit, Nat.zero_add]; exact (SX.out.cell j).trans (by simpa using hu)) (five_cells _ _ _ _ _) (by unfold maxLen; have := HKN.out; omega) (by have := HKN.out; omega) HB.out.size ?_
            intro vx41 x41 oA gA nA
            have LX := Lib.hid (at_old SX.out)
            have SX := Lib.hid (at_own SX.out OL.out gA NE.out (Nat.le_refl _))
            have NE := Lib.hid (ne_own LX.out NE.out nA)
            have HB := Lib.hid (bl_own HB.out OL.out gA)
            have OL := Lib.hid oA
            clear oA gA nA
            refine hK.out _ _ (CSx.out x41 HB.out) (fun hHeld => ?_)
            clear hK K
            try simp only [Act.put, List.getElem_toArray, List.getElem_cons_succ, List.getElem_cons_zero, List.setIfInBounds_toArray, List.set_cons_succ, List.set_cons_zero]
            refine wpAnyE_ready (rs := [11]) (by kernel_rfl) (by simp) ?_
            refine AllReadyE.cons (i := 11) rfl (by decide) (fun K hK => ?_) AllReadyE.nil
            refine step_append_rd rfl (.tmp 58) (.tmp 61) 24 rfl VV.heap.size 26 i0 (.agg #[.int .i64 0, .int .i64 0, .int .i64 0, .int .i64 0, .int .i64 0]) 40 Try.underlying24 hi hz0 hz1 hz2 rfl vx41 (k + 1) (cellsI (zs.take (k * 5)) ++ [.int .i64 a, .int .i64 l, .int .i64 u, .int .i64 f, .int .i64 t]) rfl OL.out (B := w.heap.size) (A := if c = k then some (⟨b1, o1, none⟩ : Addr) else some (⟨b1, o1 + k * 5, none⟩ : Addr)) (m := n - k) (c := c - k) (ns := zs.drop (k * 5)) rfl (rd_dropS (HR.out.below (HVV.out.trans (HB.out.mono HVV.out.size)) (Nat.le_refl _)) HKN.out HC.out) (by unfold maxLen; have := HKN.out; omega) (by have := HKN.out; omega) HB.out.size ?_
            intro vx42 x42 oA gA nA
            rw [row_done, show k + 1 + (n - k) = n + 1 by have := HKN.out; omega] at oA
            have HB := Lib.hid (bl_own HB.out OL.out gA)
            have OL := Lib.hid oA
            clear oA gA nA
            refine hK.out _ _ (CSx.out x42 HB.out) (fun hHeld => ?_)
            clear hK K
            try simp only [Act.put, List.getElem_toArray, List.getElem_cons_succ, List.getElem_cons_zero, List.setIfInBounds_toArray, List.set_cons_succ, List.set_cons_zero]
            refine wpAnyE_ready (rs := [12]) (by kernel_rfl) (by simp) ?_
            refine AllReadyE.last (i := 12) rfl rfl (fun K hK => ?_)
            go_simp
            refine hK.out _ _ ?_
            clear hK K
            try simp only [Act.put, List.getElem_toArray, List.getElem_cons_succ, List.getElem_cons_zero, List.setIfInBounds_toArray, List.set_cons_succ, List.set_cons_zero]
            refine wpAnyE_done (by kernel_rfl) ?_ _
            try simp only [List.getElem_toArray, List.getElem_cons_succ, List.getElem_cons_zero, List.setIfInBounds_toArray, List.set_cons_succ, List.set_cons_zero]
            generalize (if c = k then some (⟨b1, o1, none⟩ : Addr) else some (⟨b1, o1 + k * 5, none⟩ : Addr)) = sq
            obtain ⟨AL, cl, rfl⟩ := own_sliceZ OL.out
            have RD := Lib.hid (RdZ.of_own OL.out (inR_length HL.out HKN.out))
            have GC := Lib.hid (good18 (inR zs k a l u f t) AL (n + 1) cl x42 (by have := HKN.out; omega) RD.out)
            have HBW := Lib.hid (HVV.out.trans (HB.out.mono HVV.out.size))
            cases hcv : cvB (inR zs k a l u f t) (n + 1)
            · rw [hcv] at GC
              have HE := Lib.hid (HNO.out hcv)
              have HV1 := Lib.hid (ciV_no HE.out)
              have HN1 := Lib.hid (ciN_no HE.out)
              clear hcv
              go_wp2_with fail
              refine GC.out.mono ?_
              rintro e w8 ⟨rfl, hb8⟩
              have BX := Lib.hid (HBW.out.trans (hb8.mono HBW.out.size))
              clear hb8
              have OX := Lib.hid (own_.own_base (own_emptyZ w8 26 5) BX.out.size)
              have BY := Lib.hid (BX.out.alloc BX.out.size (.cells #[] 26))
              go_wp2_with fail
              go_ret2
              exact ⟨_, by rw [HE.out]; rfl, by rw [HV1.out, HN1.out]; exact OX.out, BY.out⟩
            · rw [hcv] at GC
              have HE := Lib.hid (HYE.out hcv)
              have HV1 := Lib.hid (ciV_yes HE.out.1)
              have HN1 := Lib.hid (ciN_yes HE.out.1)
              rw [← HE.out.2] at HV1
              clear hcv
              go_wp2_with fail
              refine GC.out.mono ?_
              rintro e w8 ⟨rfl, hb8⟩
              have BX := Lib.hid (HBW.out.trans (hb8.mono HBW.out.size))
              have OX := Lib.hid (own_.own_base (own_.own_below OL.out hb8) HVV.out.size)
              clear hb8
              go_wp2_with fail
              go_ret2
              exact ⟨_, by rw [HE.out.1]; rfl, by rw [HV1.out, HN1.out]; exact OX.out, BX.out⟩

end Go.Proofs.Ytglonedhoenkpaa.lvlw
