/- spec's AddClockLink. -/
import Derived.Test.YtndogafihaooiaaLnkX
import Derived.Deep.AppendLies
namespace Go.Proofs.Ytndogafihaooiaa.lnka
open Go.RowKit Go.Proofs.Ytndogafihaooiaa.ints Go.Proofs.Ytndogafihaooiaa.lst Go.Proofs.Ytndogafihaooiaa.in_ Go.Proofs.Ytndogafihaooiaa.ats Go.Proofs.Ytndogafihaooiaa.lnk Go.Proofs.Ytndogafihaooiaa.lnks Go.Proofs.Ytndogafihaooiaa.lnkw Go.Proofs.Ytndogafihaooiaa.lnkx

theorem infoL : (Try.prog.info? 50).map (fun i => (i.zero, i.size, i.bytes)) = some (some (.agg #[.int .i64 0, .int .i64 0, .int .i64 0]), 3, 24) := by kernel_rfl
theorem own_second3 (w : World) (e : TypeId) (o : Obj) : ((w.alloc o).alloc (.cells #[] e)).ownsRow w.heap.size e 3 (.slice (some ⟨w.heap.size + 1, 0, none⟩) 0 0) 0 [] := by
  have h := own_emptyZ (w.alloc o) e 3
  rw [World.size_alloc] at h
  exact own_.own_base h (by omega)
theorem far3 {W w1 : World} {b : Nat} {L : List Value} {r : Option Nat} (hg : W.grownBy w1 r) (hc : ∀ j u, L[j]? = some u → W.cell? ((⟨b, 0, none⟩ : Addr).add j) = some u) (hr : some b ≠ r) : ∀ j u, L[j]? = some u → w1.cell? ((⟨b, 0, none⟩ : Addr).add j) = some u := by
  intro j u hu
  have h := hc j u hu
  rw [Addr.add_lit, Nat.zero_add] at h ⊢
  rw [hg.cell_far ⟨b, j, none⟩ (World.block_lt_of_cell? _ _ h) hr, h]
theorem three_cells (x y z : Int) : ∀ u ∈ [Value.int .i64 x, .int .i64 y, .int .i64 z], u.oneCell' = true := by
  intro u hu
  simp only [List.mem_cons, List.not_mem_nil, or_false] at hu
  rcases hu with rfl | rfl | rfl <;> rfl
theorem stepZ {W w w' : World} {B e s n : Nat} {v : Value} {xs : List Value} (h : Below B W w) (hB : B ≤ w.heap.size) (hown : w.ownsRow B e s v n xs) (hg : w.grownBy w' v.ownBlock) : Below B W w' := h.grown hg hB (own_.row_ge hown)
theorem own3_app {w : World} {B e n : Nat} {v : Value} {ls : List Int} {x y z : Int} (h : w.ownsRow B e 3 v (n + 1) (cellsI ls ++ [.int .i64 x, .int .i64 y, .int .i64 z])) : w.ownsRow B e 3 v (n + 1) (cellsI (ls ++ [x, y, z])) := by
  unfold cellsI at h ⊢
  rw [List.map_append]
  exact h
theorem own_capZ {w : World} {B e s n : Nat} {v : Value} {xs : List Value} (h : w.ownsRow B e s v n xs) : ∃ A c, v = .slice A n c ∧ n ≤ c := by
  rcases h.2 with ⟨rfl, h0⟩ | ⟨g, cap, cur, rfl, _, _, hle, _⟩
  · exact ⟨_, _, by rw [h0], by omega⟩
  · exact ⟨_, _, rfl, hle⟩
theorem ints_one (xs : List Int) : ∀ u ∈ cellsI xs, u.oneCell' = true := by
  intro u hu
  unfold cellsI at hu
  obtain ⟨x, _, rfl⟩ := List.mem_map.mp hu
  rfl
theorem src_all {w : World} {b o n : Nat} {s : Nat} {zs : List Int} (h : RdZ s w w.heap.size (some ⟨b, o, none⟩) n zs) (hn : 0 < n) :
    ∀ W, Below w.heap.size w W → ∀ j u, (cellsI zs)[j]? = some u → W.cell? ((⟨b, o, none⟩ : Addr).add j) = some u := by
  intro W hb j u hu
  obtain ⟨b', o', e, hlt, hc⟩ := h.2 hn
  obtain ⟨rfl, rfl⟩ : b = b' ∧ o = o' := by injection e with e; injection e with e1 e2; exact ⟨e1, e2⟩
  unfold cellsI at hu
  rw [List.getElem?_map] at hu
  cases hx : zs[j]? with
  | none => rw [hx] at hu; cases hu
  | some x =>
    rw [hx] at hu
    have hu : Value.int .i64 x = u := by simpa using hu
    rw [Addr.add_lit, hb.cell (p := ⟨b, o + j, none⟩) hlt, hc j x hx, hu]
section
variable {P : Program}
theorem run_none (base : Nat) (t ty e : TypeId) (i : TypeInfo) (size c : Nat) (ht : P.underlying t = some (.slice e)) (hi : P.info? e = some i)
    (w : World) (v : Value) (n : Nat) (xs : List Value) (hown : w.ownsRow base e size v n xs) :
    (Builtin.append_ #[t, t] ty #[v, .slice none 0 c]).run P w = .ok v w := by
  rcases hown.2 with ⟨rfl, rfl⟩ | ⟨g, cap, cur, rfl, _, _, hnc, _⟩
  · simp [Builtin.append_, run_underlying ht, sizeOf, typeInfo, hi, Builtin.lenOf, Builtin.firstCells]
  · simp [Builtin.append_, run_underlying ht, sizeOf, typeInfo, hi, Builtin.lenOf, Builtin.firstCells, hnc, storeCells]
theorem step_append_none {ops : Array Oper} {o : Oper} {a : Act} {w : World} {K : Act → World → Prop} {Q : Exit → Act → World → Prop} {E : Prop} (hgd : o.guard = none) (s x : Operand) (t : TypeId)
    (ho : o.op = .call { callee := .builtin .append, args := #[s, x], argTypes := #[t, t] })
    (base : Nat) (e : TypeId) (i : TypeInfo) (size c : Nat) (ht : P.underlying t = some (.slice e)) (hi : P.info? e = some i)
    (v : Value) (n : Nat) (xs : List Value) (hs : a.eval s = v) (hown : w.ownsRow base e size v n xs) (hx : a.eval x = .slice none 0 c)
    (h : K (a.put o.dst v) w) :
    if Region.wanted o (yielded ops a.tmps) = true then Oper.wp P o a w K Q else E := by
  have hw : Region.wanted o (yielded ops a.tmps) = true := by simp [Region.wanted, hgd]
  rw [if_pos hw]
  have hr := run_none (P := P) base t o.type e i size c ht hi w v n xs hown
  unfold Oper.wp execOp
  simp only [ho, resolve, invoke, builtin, Sem.run_bind, Sem.run_pure, Result.andThen_ok, List.map_toArray, List.map_cons, List.map_nil, hs, hx, hr]
  exact h
end

set_option maxRecDepth 100000 in
set_option maxHeartbeats 8000000 in
theorem addClockLink (n : Int) (ls : List Int) (x y z : Int) (A : Option Addr) (m c : Nat) (w : World) (hm : m ≤ 1048576) (h1 : RdZ 3 w w.heap.size A m ls) :
    Calls Try.prog 38 #[.int .i64 n, .slice A m c, .agg #[.int .i64 x, .int .i64 y, .int .i64 z]] w fun e w' => ∃ v, e = .returned (.tuple #[v, .bool (adB ls n m x y z)]) ∧ w'.ownsRow w.heap.size 50 3 v (adN ls n m x y z) (cellsI (adV ls n m x y z)) ∧ Below w.heap.size w w' := by
  have S0 := Lib.hid (newS 50 #[.int .i64 x, .int .i64 y, .int .i64 z] w)
  have HLL := Lib.hid h1.1
  have hA0 := Lib.hid (fun (h : A = none) => show m = 0 from by
    rcases Nat.eq_zero_or_pos m with h0 | h0
    · exact h0
    · obtain ⟨b, o, e, -⟩ := h1.2 h0
      rw [h] at e; cases e)
  obtain ⟨i0, hi, hz0, hz1, hz2⟩ := info_parts infoL
  have HR := Lib.hid h1
  have HAD := Lib.hid (show adB ls n m x y z = (lkB (ls ++ [x, y, z]) n (m + 1) && alT (ls ++ [x, y, z]) (m + 1) n.toNat) from rfl)
  have HVN := Lib.hid (fun (h : adB ls n m x y z = false) => show adN ls n m x y z = 0 ∧ adV ls n m x y z = [] by unfold adN adV; rw [h]; exact ⟨rfl, rfl⟩)
  have HVY := Lib.hid (fun (h : adB ls n m x y z = true) => show adN ls n m x y z = m + 1 ∧ adV ls n m x y z = ls ++ [x, y, z] by unfold adN adV; rw [h]; exact ⟨rfl, rfl⟩)
  clear h1
  go_enter Try.func38, Try.ntmps38
  go_upto_region 1 with fail
  generalize w.alloc (.cells #[.int .i64 x, .int .i64 y, .int .i64 z] 50) = W0 at *
  have CBX := Lib.hid (fun WZ (hz : Below W0.heap.size W0 WZ) => show Below W0.heap.size W0 WZ ∧ WZ.cell? ⟨w.heap.size, 0, none⟩ = some (.int .i64 x) ∧ WZ.cell? ⟨w.heap.size, 1, none⟩ = some (.int .i64 y) ∧ WZ.cell? ⟨w.heap.size, 2, none⟩ = some (.int .i64 z) from ⟨hz, (S0.out.old hz).cell 0, (S0.out.old hz).cell 1, (S0.out.old hz).cell 2⟩)
  have SB := Lib.hid (fun WZ (h : Below W0.heap.size W0 WZ ∧ WZ.cell? ⟨w.heap.size, 0, none⟩ = some (.int .i64 x) ∧ WZ.cell? ⟨w.heap.size, 1, none⟩ = some (.int .i64 y) ∧ WZ.cell? ⟨w.heap.size, 2, none⟩ = some (.int .i64 z)) => h.1)
  have CA := Lib.hid (show ∀ j u, [Value.int .i64 x, .int .i64 y, .int .i64 z][j]? = some u → ((W0.alloc (.cells #[] 50)).alloc (.cells #[.int .i64 x, .int .i64 y, .int .i64 z] 50)).drew.cell? ((⟨W0.heap.size + 1, 0, none⟩ : Addr).add j) = some u from fun j u hu => by
    have := cells_new (W0.alloc (.cells #[] 50)) 50 #[.int .i64 x, .int .i64 y, .int .i64 z] j u hu
    rw [World.size_alloc] at this
    exact this)
  have CB := Lib.hid (show ∀ j u, [Value.int .i64 x, .int .i64 y, .int .i64 z][j]? = some u → ((W0.alloc (.cells #[.int .i64 x, .int .i64 y, .int .i64 z] 50)).alloc (.cells #[] 50)).drew.cell? ((⟨W0.heap.size, 0, none⟩ : Addr).add j) = some u from
    fun j u hu => far3 (r := none) (World.grownBy_alloc (W0.alloc (.cells #[.int .i64 x, .int .i64 y, .int .i64 z] 50)) (.cells #[] 50) none) (cells_new W0 50 #[.int .i64 x, .int .i64 y, .int .i64 z]) (by simp) j u hu)
  have BX := Lib.hid S0.out.1
  go_cut [8] from 13 to 18 (fun v wz => ∃ AX cX, v = .slice AX (m + 1) cX ∧ m + 1 ≤ cX ∧ wz.ownsRow W0.heap.size 50 3 (.slice AX (m + 1) cX) (m + 1) (cellsI (ls ++ [x, y, z])) ∧ Below W0.heap.size W0 wz)
  case first =>
    rcases Nat.eq_zero_or_pos m with h0 | h0
    · have hls : ls = [] := List.eq_nil_of_length_eq_zero (by rw [HLL.out, h0])
      subst hls
      subst h0
      cases A with
      | none =>
        go_region_held3 (fun w' => Below W0.heap.size W0 w' ∧ w'.cell? ⟨w.heap.size, 0, none⟩ = some (.int .i64 x) ∧ w'.cell? ⟨w.heap.size, 1, none⟩ = some (.int .i64 y) ∧ w'.cell? ⟨w.heap.size, 2, none⟩ = some (.int .i64 z)) (first
          | exact CBX.out _ (Below.refl _ _).drew
          | assumption
          | exact CBX.out _ ((Below.refl _ _).alloc (Nat.le_refl _) _).drew
          | exact CBX.out _ (((Below.refl _ _).alloc (Nat.le_refl _) _).alloc (by rw [World.size_alloc]; omega) _).drew
          | exact CBX.out _ (Below.alloc (SB.out _ (by assumption)) (Below.size (SB.out _ (by assumption))) _)) (first
          | (refine step_append_none rfl (.tmp 13) (.tmp 14) 42 rfl W0.heap.size 50 i0 3 c Try.underlying42 hi _ 0 [] rfl (by first | exact own_emptyZ W0 _ 3 | exact (own_emptyZ W0 _ 3).alloc _ | exact own_second3 W0 _ _) rfl ?_)
          | (refine step_append_sz rfl (.tmp 15) (.tmp 17) 42 rfl W0.heap.size 50 i0 (.agg #[.int .i64 0, .int .i64 0, .int .i64 0]) 3 24 Try.underlying42 hi hz0 hz1 hz2 rfl (by decide) _ 0 [] rfl (by first | exact (by first | exact own_emptyZ W0 _ 3 | exact (own_emptyZ W0 _ 3).alloc _ | exact own_second3 W0 _ _) | exact World.ownsRow.alloc (by first | exact own_emptyZ W0 _ 3 | exact (own_emptyZ W0 _ 3).alloc _ | exact own_second3 W0 _ _) _) _ 1 1 [.int .i64 x, .int .i64 y, .int .i64 z] rfl rfl (by first | exact cells_new _ _ #[.int .i64 x, .int .i64 y, .int .i64 z] | exact CA.out | exact CB.out | exact far3 (by assumption) CA.out (show some (W0.heap.size + 1) ≠ some W0.heap.size by simp) | exact far3 (by assumption) CB.out (show some W0.heap.size ≠ some (W0.heap.size + 1) by simp)) (three_cells _ _ _) (by unfold maxLen; omega) (by omega) (Below.size (SB.out _ (by assumption))) ?_
             intro v2 w2 o2 g2 r2
             have hB2 := stepZ (SB.out _ (by assumption)) (Below.size (SB.out _ (by assumption))) (by first | exact (by first | exact own_emptyZ W0 _ 3 | exact (own_emptyZ W0 _ 3).alloc _ | exact own_second3 W0 _ _) | exact World.ownsRow.alloc (by first | exact own_emptyZ W0 _ 3 | exact (own_emptyZ W0 _ 3).alloc _ | exact own_second3 W0 _ _) _) g2
             have hS2 := CBX.out _ hB2))
        all_goals (
          have OX := own3_app (ls := []) (n := 0) (by simpa [cellsI] using o2)
          obtain ⟨AX, cX, rfl, hcX⟩ := own_capZ OX
          go_wp2_with fail
          go_meet
          exact ⟨AX, cX, rfl, hcX, OX, hB2⟩)
      | some ad =>
        have SRC := Lib.hid (show ∀ W, Below W0.heap.size W0 W → ∀ j u, (cellsI ([] : List Int))[j]? = some u → W.cell? (ad.add j) = some u from fun W _ j u hu => by simp [cellsI] at hu)
        go_region_held3 (fun w' => Below W0.heap.size W0 w' ∧ w'.cell? ⟨w.heap.size, 0, none⟩ = some (.int .i64 x) ∧ w'.cell? ⟨w.heap.size, 1, none⟩ = some (.int .i64 y) ∧ w'.cell? ⟨w.heap.size, 2, none⟩ = some (.int .i64 z)) (first
          | exact CBX.out _ (Below.refl _ _).drew
          | assumption
          | exact CBX.out _ ((Below.refl _ _).alloc (Nat.le_refl _) _).drew
          | exact CBX.out _ (((Below.refl _ _).alloc (Nat.le_refl _) _).alloc (by rw [World.size_alloc]; omega) _).drew
          | exact CBX.out _ (Below.alloc (SB.out _ (by assumption)) (Below.size (SB.out _ (by assumption))) _)) (first
          | (refine step_append_sz rfl (.tmp 13) (.tmp 14) 42 rfl W0.heap.size 50 i0 (.agg #[.int .i64 0, .int .i64 0, .int .i64 0]) 3 24 Try.underlying42 hi hz0 hz1 hz2 rfl (by decide) _ 0 [] rfl (by first | exact own_emptyZ W0 _ 3 | exact (own_emptyZ W0 _ 3).alloc _ | exact own_second3 W0 _ _) _ 0 _ (cellsI []) rfl (by unfold cellsI; rw [List.length_map]; exact HLL.out) (SRC.out _ (SB.out _ (by assumption))) (ints_one _) (by unfold maxLen; omega) (by omega) (Below.size (SB.out _ (by assumption))) ?_
             intro v1 w1 o1 g1 r1
             have hB1 := stepZ (SB.out _ (by assumption)) (Below.size (SB.out _ (by assumption))) (by first | exact own_emptyZ W0 _ 3 | exact (own_emptyZ W0 _ 3).alloc _ | exact own_second3 W0 _ _) g1
             have hS1 := CBX.out _ hB1
             rw [Nat.zero_add, List.nil_append] at o1)
          | (refine step_append_sz rfl (.tmp 15) (.tmp 17) 42 rfl W0.heap.size 50 i0 (.agg #[.int .i64 0, .int .i64 0, .int .i64 0]) 3 24 Try.underlying42 hi hz0 hz1 hz2 rfl (by decide) _ 0 (cellsI []) rfl (by first | exact o1 | exact World.ownsRow.alloc o1 _) _ 1 1 [.int .i64 x, .int .i64 y, .int .i64 z] rfl rfl (by first | exact cells_new _ _ #[.int .i64 x, .int .i64 y, .int .i64 z] | exact CA.out | exact CB.out | exact far3 (by assumption) CA.out (show some (W0.heap.size + 1) ≠ some W0.heap.size by simp) | exact far3 (by assumption) CB.out (show some W0.heap.size ≠ some (W0.heap.size + 1) by simp)) (three_cells _ _ _) (by unfold maxLen; omega) (by omega) (Below.size (SB.out _ (by assumption))) ?_
             intro v2 w2 o2 g2 r2
             have hB2 := stepZ (SB.out _ (by assumption)) (Below.size (SB.out _ (by assumption))) (by first | exact o1 | exact World.ownsRow.alloc o1 _) g2
             have hS2 := CBX.out _ hB2))
        all_goals (
          have OX := own3_app (ls := []) (n := 0) (by simpa [cellsI] using o2)
          obtain ⟨AX, cX, rfl, hcX⟩ := own_capZ OX
          go_wp2_with fail
          go_meet
          exact ⟨AX, cX, rfl, hcX, OX, hB2⟩)
    · obtain ⟨b, o, rfl, -⟩ := HR.out.2 h0
      have SRC := Lib.hid (src_all (HR.out.next BX.out) h0)
      go_region_held3 (fun w' => Below W0.heap.size W0 w' ∧ w'.cell? ⟨w.heap.size, 0, none⟩ = some (.int .i64 x) ∧ w'.cell? ⟨w.heap.size, 1, none⟩ = some (.int .i64 y) ∧ w'.cell? ⟨w.heap.size, 2, none⟩ = some (.int .i64 z)) (first
        | exact CBX.out _ (Below.refl _ _).drew
        | assumption
        | exact CBX.out _ ((Below.refl _ _).alloc (Nat.le_refl _) _).drew
        | exact CBX.out _ (((Below.refl _ _).alloc (Nat.le_refl _) _).alloc (by rw [World.size_alloc]; omega) _).drew
        | exact CBX.out _ (Below.alloc (SB.out _ (by assumption)) (Below.size (SB.out _ (by assumption))) _)) (first
        | (refine step_append_sz rfl (.tmp 13) (.tmp 14) 42 rfl W0.heap.size 50 i0 (.agg #[.int .i64 0, .int .i64 0, .int .i64 0]) 3 24 Try.underlying42 hi hz0 hz1 hz2 rfl (by decide) _ 0 [] rfl (by first | exact own_emptyZ W0 _ 3 | exact (own_emptyZ W0 _ 3).alloc _ | exact own_second3 W0 _ _) _ m _ (cellsI ls) rfl (by unfold cellsI; rw [List.length_map]; exact HLL.out) (SRC.out _ (SB.out _ (by assumption))) (ints_one _) (by unfold maxLen; omega) (by omega) (Below.size (SB.out _ (by assumption))) ?_
           intro v1 w1 o1 g1 r1
           have hB1 := stepZ (SB.out _ (by assumption)) (Below.size (SB.out _ (by assumption))) (by first | exact own_emptyZ W0 _ 3 | exact (own_emptyZ W0 _ 3).alloc _ | exact own_second3 W0 _ _) g1
           have hS1 := CBX.out _ hB1
           rw [Nat.zero_add, List.nil_append] at o1)
        | (refine step_append_sz rfl (.tmp 15) (.tmp 17) 42 rfl W0.heap.size 50 i0 (.agg #[.int .i64 0, .int .i64 0, .int .i64 0]) 3 24 Try.underlying42 hi hz0 hz1 hz2 rfl (by decide) _ m (cellsI ls) rfl (by first | exact o1 | exact World.ownsRow.alloc o1 _) _ 1 1 [.int .i64 x, .int .i64 y, .int .i64 z] rfl rfl (by first | exact cells_new _ _ #[.int .i64 x, .int .i64 y, .int .i64 z] | exact CA.out | exact CB.out | exact far3 (by assumption) CA.out (show some (W0.heap.size + 1) ≠ some W0.heap.size by simp) | exact far3 (by assumption) CB.out (show some W0.heap.size ≠ some (W0.heap.size + 1) by simp)) (three_cells _ _ _) (by unfold maxLen; omega) (by omega) (Below.size (SB.out _ (by assumption))) ?_
           intro v2 w2 o2 g2 r2
           have hB2 := stepZ (SB.out _ (by assumption)) (Below.size (SB.out _ (by assumption))) (by first | exact o1 | exact World.ownsRow.alloc o1 _) g2
           have hS2 := CBX.out _ hB2))
      all_goals (
        have OX := own3_app o2
        obtain ⟨AX, cX, rfl, hcX⟩ := own_capZ OX
        go_wp2_with fail
        go_meet
        exact ⟨AX, cX, rfl, hcX, OX, hB2⟩)
  case rest =>
    obtain ⟨AX, cX, rfl, hcX, ho, hb⟩ := hcut
    have BY := Lib.hid (BX.out.trans (hb.mono BX.out.size))
    have RX := Lib.hid (RdZ.of_own ho (show (ls ++ [x, y, z]).length = (m + 1) * 3 by rw [List.length_append, HLL.out]; simp; omega))
    have OX := Lib.hid (own_.own_base ho BX.out.size)
    clear ho hb CBX SB CA CB hA0 HR
    generalize wc = W1 at *
    generalize ls ++ [x, y, z] = L at *
    have T := links12 n L AX (m + 1) cX W1 (by omega) RX.out
    cases hq : lkB L n (m + 1)
    · rw [hq] at T
      have HE := Lib.hid (show adB ls n m x y z = false by rw [HAD.out, hq]; rfl)
      have HV := Lib.hid (HVN.out HE.out)
      have T := Lib.hid T
      clear hq HVN HVY
      go_wp2_with fail
      refine T.out.mono ?_
      rintro e w2 ⟨rfl, hb⟩
      have BZ := Lib.hid (BY.out.trans (hb.mono BY.out.size))
      have OE := Lib.hid (own_.own_base (own_emptyZ w2 50 3) BZ.out.size)
      have BE := Lib.hid (BZ.out.alloc BZ.out.size (.cells #[] 50))
      clear hb
      go_wp2_with fail
      go_ret2
      exact ⟨_, by rw [HE.out]; rfl, by rw [HV.out.1, HV.out.2]; exact OE.out, BE.out⟩
    rw [hq] at T
    have T := Lib.hid T
    obtain ⟨ht, n1, n6, m12⟩ := lkB_yes hq
    obtain ⟨N, rfl⟩ := Int.eq_ofNat_of_zero_le (show 0 ≤ n by omega)
    have SH := Lib.hid (fun k (hk : k < N) W (hb : Below W1.heap.size W1 W) => show12 L AX N (m + 1) cX k W (by omega) (by omega) hk ht (RX.out.next hb))
    have HA2 := Lib.hid (show adB ls (N : Int) m x y z = alT L (m + 1) N by rw [HAD.out, hq, Int.toNat_natCast]; rfl)
    have HNO := Lib.hid (fun k (hk : k < N) (h : agB L (m + 1) k = false) => show adB ls (N : Int) m x y z = false by rw [HA2.out]; exact alT_no hk h)
    have HST := Lib.hid (fun k => show alT L (m + 1) (k + 1) = (alT L (m + 1) k && agB L (m + 1) k) from rfl)
    clear hq ht
    go_wp2_with fail
    refine T.out.mono ?_
    rintro e w2 ⟨rfl, hb⟩
    have BV := Lib.hid hb
    clear hb T
    go_wp2_with fail
    go_loopw [9] (fun i wr => ∃ k : Nat, k ≤ N ∧ i = .int .i64 k ∧ alT L (m + 1) k = true ∧ Below W1.heap.size W1 wr) (fun i _ => N - (intOf i).toNat)
    case atStart => exact ⟨0, Nat.zero_le _, rfl, rfl, BV.out⟩
    case round =>
      obtain ⟨k, hk, rfl, hal, hb⟩ := hrel
      clear BV
      have BV := Lib.hid hb
      have HAL := Lib.hid hal
      clear hb hal
      by_cases hlt : k < N
      · have hlt2 : (k : Int) < (N : Int) := by omega
        have SHk := Lib.hid (SH.out k hlt wr BV.out)
        have HNk := Lib.hid (HNO.out k hlt)
        have HSk := Lib.hid (HST.out k)
        go_wp2_with fail
        refine SHk.out.mono ?_
        rintro e w3 ⟨g1, g2, sn, of, rfl, hsr, hcl, ho1, ho2, hb⟩
        have BU := Lib.hid (BV.out.trans (hb.mono BV.out.size))
        clear hsr hcl ho1 ho2 hb SHk
        cases ha : agB L (m + 1) k
        · have HE := Lib.hid (HNk.out ha)
          have HV := Lib.hid (HVN.out HE.out)
          have BZ := Lib.hid (BY.out.trans (BU.out.mono BY.out.size))
          have OE := Lib.hid (own_.own_base (own_emptyZ w3 50 3) BZ.out.size)
          have BE := Lib.hid (BZ.out.alloc BZ.out.size (.cells #[] 50))
          clear ha
          go_wp2_with fail
          go_ret2
          exact ⟨_, by rw [HE.out]; rfl, by rw [HV.out.1, HV.out.2]; exact OE.out, BE.out⟩
        · have HT := Lib.hid (show alT L (m + 1) (k + 1) = true by rw [HSk.out, HAL.out, ha]; rfl)
          clear ha
          go_wp2_with fail
          go_roundw
          case rel => exact ⟨k + 1, by omega, by go_num, HT.out, BU.out⟩
          case measure => simp [intOf]; omega
      · obtain rfl : k = N := by omega
        have HE := Lib.hid (show adB ls (k : Int) m x y z = true by rw [HA2.out, HAL.out])
        have HV := Lib.hid (HVY.out HE.out)
        have OE := Lib.hid (own_.own_below OX.out BV.out)
        have BZ := Lib.hid (BY.out.trans (BV.out.mono BY.out.size))
        go_wp2_with fail
        go_ret2
        exact ⟨_, by rw [HE.out]; rfl, by rw [HV.out.1, HV.out.2]; exact OE.out, BZ.out⟩
end Go.Proofs.Ytndogafihaooiaa.lnka
