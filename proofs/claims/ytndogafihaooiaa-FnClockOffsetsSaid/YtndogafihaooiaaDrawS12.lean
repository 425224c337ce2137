/- spec's draws of pairs of ticks. -/
import Derived.Test.YtndogafihaooiaaAtC
import Derived.Test.YtndogafihaooiaaCode
import Derived.Test.YtndogafihaooiaaClkE
import Derived.Test.YtndogafihaooiaaCurInt
import Derived.Deep.AppendLies
import Derived.ChangeAlike
import Derived.Deep.RegionHeld3
import Derived.Deep.CutBlock
import Derived.Deep.CutRange
namespace Go.Proofs.Ytndogafihaooiaa.draws12
open Go.RowKit Go.Proofs.Ytndogafihaooiaa.cur Go.Proofs.Ytndogafihaooiaa.atc Go.Proofs.Ytndogafihaooiaa.ats Go.Proofs.Ytndogafihaooiaa.ints Go.Proofs.Ytndogafihaooiaa.lst Go.Proofs.Ytndogafihaooiaa.code_

theorem grown_append {w wr w1 : World} {o : Obj} {p B e size n : Nat} {v : Value} {xs : List Value} (hg : w.grownBy wr (some p)) (h : wr.ownsRow B e size v n xs) (hB : w.heap.size ≤ B) (ha : (wr.alloc o).grownBy w1 v.ownBlock) : w.grownBy w1 (some p) :=
  ⟨ha.os.trans hg.os, ha.tape.trans hg.tape, ha.output.trans hg.output, Nat.le_trans hg.size (Nat.le_trans (by rw [World.size_alloc]; omega) ha.size), fun k hk hne => by
    have h1 := ha.block k (by have := hg.size; rw [World.size_alloc]; omega) (fun e => by have := own_.row_ge h k e.symm; omega)
    have h2 : (wr.alloc o).heap[k]? = wr.heap[k]? := Below.heap_alloc wr o k (by have := hg.size; omega)
    exact h1.trans (h2.trans (hg.block k hk hne))⟩
theorem cur_append {wr w1 : World} {o : Obj} {p m B e size n : Nat} {v : Value} {xs : List Value} (hc : Cur wr p m) (h : wr.ownsRow B e size v n xs) (hB : p < B) (hs : B ≤ wr.heap.size) (ha : (wr.alloc o).grownBy w1 v.ownBlock) : Cur w1 p m :=
  hc.keep (((Below.refl (p + 1) wr).alloc (by omega) o).grown ha (by rw [World.size_alloc]; omega) (fun k e => by have := own_.row_ge h k e; omega))
theorem cells_two (w : World) (x y : Int) (t : TypeId) : ∀ j u, [Value.int .i64 x, Value.int .i64 y][j]? = some u → (w.alloc (.cells #[.int .i64 x, .int .i64 y] t)).cell? ((⟨w.heap.size, 0, none⟩ : Addr).add j) = some u :=
  World.news_of_block (cs := #[.int .i64 x, .int .i64 y]) (t := t) (fr := (0, 0)) (heap_alloc_new w _)
theorem own_grow2 {w : World} {B e n : Nat} {v : Value} {xs : List Int} {x y : Int} (h : w.ownsRow B e 2 v (n + 1) (cellsI xs ++ [.int .i64 x, .int .i64 y])) : w.ownsRow B e 2 v (n + 1) (cellsI (xs ++ [x, y])) := by
  unfold cellsI at h ⊢
  rw [List.map_append]
  exact h
theorem own_len {w : World} {B e n : Nat} {v : Value} {xs : List Int} (h : w.ownsRow B e 2 v n (cellsI xs)) : xs.length = n * 2 := by have := h.1; unfold cellsI at this; simpa using this
theorem own_nil {w : World} {B e s n g c : Nat} {xs : List Value} (h : w.ownsRow B e s (.slice (some ⟨g, 0, none⟩) n c) n xs) : w.ownsRow B e s (.slice (some ⟨g, 0, none⟩) 0 c) 0 [] := by
  refine ⟨by simp, ?_⟩
  rcases h.2 with ⟨e1, _⟩ | ⟨g', cap, cur, e1, h1, h2, h3, h4, h5, h6⟩
  · cases e1
  · injection e1 with e1 _ e2
    injection e1 with e1
    injection e1 with e1
    subst e1
    subst e2
    exact .inr ⟨g, c, cur, rfl, h1, h2, Nat.zero_le _, h4, h5, by simp⟩
theorem own_posC {w : World} {B e s n : Nat} {v : Value} {xs : List Value} (h : w.ownsRow B e s v n xs) (hn : 0 < n) : ∃ g c, v = .slice (some ⟨g, 0, none⟩) n c ∧ n ≤ c ∧ B ≤ g := by
  rcases h.2 with ⟨_, e2⟩ | ⟨g, cap, cur, e2, _, _, hle, _⟩
  · omega
  · exact ⟨g, cap, e2, hle, own_.row_ge h g (by rw [e2]; rfl)⟩
/-- Every number of a list is small. -/
def Sml (zs : List Int) : Prop := ∀ x ∈ zs, -100000000 ≤ x ∧ x ≤ 100000000
theorem Sml.app {zs : List Int} {x y : Int} (h : Sml zs) (hx : -100000000 ≤ x ∧ x ≤ 100000000) (hy : -100000000 ≤ y ∧ y ≤ 100000000) : Sml (zs ++ [x, y]) := by
  intro z hz
  rcases List.mem_append.1 hz with hz | hz
  · exact h z hz
  · simp only [List.mem_cons, List.not_mem_nil, or_false] at hz
    rcases hz with rfl | rfl
    · exact hx
    · exact hy
theorem Sml.fld {zs : List Int} (h : Sml zs) (k j : Nat) : -100000000 ≤ fld 2 zs k j ∧ fld 2 zs k j ≤ 100000000 := by
  unfold lst.fld
  rw [List.getD_eq_getElem?_getD]
  cases e : zs[k * 2 + j]? with
  | none => simp
  | some x => exact h x (List.mem_of_getElem? e)
theorem cells_set (xs : List Int) (j : Nat) (a : Int) : (cellsI xs).set j (.int .i64 a) = cellsI (xs.set j a) := by unfold cellsI; rw [List.map_set]
theorem grown_put {w W : World} {p b i : Nat} {v : Value} (h : w.grownBy W (some p)) (hb : w.heap.size ≤ b) : w.grownBy (W.setCell ⟨b, i, none⟩ v) (some p) :=
  ⟨h.os, h.tape, h.output, by have := h.size; simpa [World.setCell] using this, fun k hk hne => (Go.Deep.blk_setCell_other W ⟨b, i, none⟩ v k (by show k ≠ b; omega)).trans (h.block k hk hne)⟩
theorem at_grown {T : TypeId} {cs : Array Value} {w W W' : World} {b p : Nat} (h : AtS T cs w W b) (hg : W.grownBy W' (some p)) (hne : b ≠ p) : W'.heap[b]? = some (.cells cs T (0, 0)) :=
  (hg.block b h.2.2.1 (fun e => hne (by injection e))).trans h.2.2.2
def lenV : Value → Nat
  | .slice _ k _ => k
  | _ => 0
def PairsQ (p m : Nat) (w : World) (e : Ending) (w' : World) : Prop := ∃ v n zs, e = .returned v ∧ w'.ownsRow w.heap.size 36 2 v n (cellsI zs) ∧ n ≤ 20 ∧ Cur w' p m ∧ w.grownBy w' (some p)
/-- The end: out[k] = x. -/
theorem ends {w W : World} {p m g n c k : Nat} {zs : List Int} (x y : Int) (ho : W.ownsRow w.heap.size 36 2 (.slice (some ⟨g, 0, none⟩) n c) n (cellsI zs)) (hc : Cur W p m) (hg : w.grownBy W (some p)) (hp : p < w.heap.size) :
    ((W.setCell ⟨g, k * 2, none⟩ (.int .i64 x)).setCell ⟨g, k * 2 + 1, none⟩ (.int .i64 y)).ownsRow w.heap.size 36 2 (.slice (some ⟨g, 0, none⟩) n c) n (cellsI ((zs.set (k * 2) x).set (k * 2 + 1) y)) ∧ Cur ((W.setCell ⟨g, k * 2, none⟩ (.int .i64 x)).setCell ⟨g, k * 2 + 1, none⟩ (.int .i64 y)) p m ∧ w.grownBy ((W.setCell ⟨g, k * 2, none⟩ (.int .i64 x)).setCell ⟨g, k * 2 + 1, none⟩ (.int .i64 y)) (some p) := by
  have hgB := own_.row_ge ho g rfl
  have s1 := (ho.stored (k * 2) (.int .i64 x)).1
  rw [cells_set] at s1
  have s2 := (s1.stored (k * 2 + 1) (.int .i64 y)).1
  rw [cells_set] at s2
  have hpg : p < g := by omega
  exact ⟨s2, Cur.set (Cur.set hc hpg) hpg, grown_put (grown_put hg hgB) hgB⟩

set_option maxRecDepth 100000 in
set_option maxHeartbeats 8000000 in
theorem clockPairs (p m : Nat) (w : World) (h : Cur w p m) (hm : m ≤ 100000) :
    Calls Try.prog 54 #[.pointer (some ⟨p, 0, none⟩)] w (PairsQ p (m + 1000) w) := by
  have hp := h.lt
  obtain ⟨i0, hi, hz0, hz1, hz2⟩ := info_parts clke.infoS
  have O0 := Lib.hid (own_emptyZ w 36 2)
  have HC0 := Lib.hid (h.keep ((Below.refl (p + 1) w).alloc (by omega) (.cells #[] 36)))
  have G0 := Lib.hid (show w.grownBy (w.alloc (.cells #[] 36)) (some p) from grown_alloc _ _)
  clear h
  go_enter Try.func54, Try.ntmps54
  go_upto_region 2 with fail
  generalize w.alloc (.cells #[] 36) = W at *
  go_wp2_with fail
  refine (among_new (0) 500 p _ 3 [0, 10, 500] _ W HC0.out (by omega) (by omega) (by omega) rfl rfl (by decide)).mono ?_
  rintro e w1 ⟨a, rfl, a0, a1, hc1, hg1⟩
  have O1 := Lib.hid (own_kept O0.out hg1 (fun g e => by cases e; exact hp))
  have HC1 := Lib.hid hc1
  have G1 := Lib.hid (grown_trans G0.out hg1)
  clear hc1 hg1 O0 HC0 G0
  go_wp2_with fail
  refine (among_new (0) 100 p _ 3 [0, 7, 100] _ w1 HC1.out (by omega) (by omega) (by omega) rfl rfl (by decide)).mono ?_
  rintro e w2 ⟨f, rfl, f0, f1, hc2, hg2⟩
  have O2 := Lib.hid (own_kept O1.out hg2 (fun g e => by cases e; exact hp))
  have HC2 := Lib.hid hc2
  have G2 := Lib.hid (grown_trans G1.out hg2)
  clear hc2 hg2 O1 HC1 G1
  go_wp2_with fail
  refine (pick p _ 7 w2 HC2.out (by omega) (by omega) (by omega)).mono ?_
  rintro e w3 ⟨r, rfl, r0, r1, hc3, hg3⟩
  obtain ⟨q0, rfl⟩ := Int.eq_ofNat_of_zero_le r0
  have O3 := Lib.hid (own_kept O2.out hg3 (fun g e => by cases e; exact hp))
  have HC3 := Lib.hid hc3
  have G3 := Lib.hid (grown_trans G2.out hg3)
  clear hc3 hg3 O2 HC2 G2
  go_wp2_with fail
  go_loopw [3, 4, 6] (fun v av nv wr => ∃ (t k : Nat) (a : Int) (zs : List Int), t + k ≤ 7 ∧ 1 ≤ t + k ∧ nv = .int .i64 ((t : Int) - 1) ∧ av = .int .i64 a ∧ 0 ≤ a ∧ a ≤ 500 + 100 * (k : Int) ∧ Sml zs ∧ wr.ownsRow w.heap.size 36 2 v k (cellsI zs) ∧ Cur wr p (m + 20 + 20 * k) ∧ w.grownBy wr (some p)) (fun _ _ nv _ => (intOf nv + 1).toNat)
  case atStart => exact ⟨q0 + 1, 0, a, [], by omega, by omega, by first | rfl | go_num, rfl, a0, by omega, fun x hx => by simp at hx, O3.out, HC3.out.more (by omega), G3.out⟩
  case round =>
    obtain ⟨t, k, a, zs, ht, ht1, rfl, rfl, a0, a1, hsm, ho, hc, hg⟩ := hrel
    clear O3 HC3 G3
    have HSM := Lib.hid hsm
    have HLZ := Lib.hid (own_len ho)
    clear hsm
    by_cases hlt : 0 < t
    · have hlt2 : (0 : Int) ≤ (t : Int) - 1 := by omega
      have e1 : IntKind.i64.wrap (a + f) = a + f := IntWalk.i64_in _ (by omega)
      go_wp2_with fail
      refine (among_new (0) 9 p _ 5 [0, 0, 1, 2, 9] _ wr hc (by omega) (by omega) (by omega) rfl rfl (by decide)).mono ?_
      rintro e w4 ⟨b, rfl, b0, b1, hc4, hg4⟩
      have ho4 := own_kept ho hg4 (fun g e => by cases e; exact hp)
      have hgg := grown_trans hg hg4
      have hs4 := hgg.size
      have e2 : IntKind.i64.wrap (a + f + b) = a + f + b := IntWalk.i64_in _ (by omega)
      clear ho hc hg hg4
      go_wp2_with (at_builtin; refine wpList_append_own _ rfl (.tmp 22) (.tmp 32) 24 rfl w.heap.size 36 i0 (.agg #[.int .i64 0, .int .i64 0]) 2 16 Try.underlying24 hi hz0 hz1 hz2 rfl (by decide) _ k (cellsI zs) rfl (ho4.alloc _) ⟨w4.heap.size, 0, none⟩ 1 1 [.int .i64 (a), .int .i64 (a + f + b)] rfl rfl (cells_two _ _ _ _) (two_cells _ _) (by unfold maxLen; omega) (by omega) (by simp; omega) ?_; intro v' w9 hown' hgrow hnil)
      have hc5 := Lib.hid (cur_append hc4 ho4 hp hs4 hgrow)
      have hg5 := Lib.hid (grown_append hgg ho4 (Nat.le_refl _) hgrow)
      have HO5 := Lib.hid (own_grow2 hown')
      have HS5 := Lib.hid (HSM.out.app (x := a) (y := a + f + b) (by omega) (by omega))
      clear hown' hgrow hnil ho4 hc4 hgg hs4
      go_wp2_with fail
      refine (among_new (1) 100 p _ 3 [1, 10, 100] _ w9 hc5.out (by omega) (by omega) (by omega) rfl rfl (by decide)).mono ?_
      rintro e w6 ⟨d, rfl, d0, d1, hc6, hg6⟩
      have e3 : IntKind.i64.wrap (a + d) = a + d := IntWalk.i64_in _ (by omega)
      have e4 : IntKind.i64.wrap ((t : Int) - 1 - 1) = (t : Int) - 1 - 1 := IntWalk.i64_in _ (by omega)
      have HO6 := Lib.hid (own_kept HO5.out hg6 (fun g e => by cases e; exact hp))
      have HC6 := Lib.hid hc6
      have HG6 := Lib.hid (grown_trans hg5.out hg6)
      clear hc6 hg6 HO5 hc5 hg5
      go_wp2_with fail
      go_roundw
      case rel => exact ⟨t - 1, k + 1, _, _, by omega, by omega, (by show Value.int .i64 _ = Value.int .i64 _; congr 1; omega), rfl, by omega, by omega, HS5.out, HO6.out, HC6.out.more (by omega), HG6.out⟩
      case measure => simp [intOf]; omega
    · obtain rfl : t = 0 := by omega
      have hk1 : 1 ≤ k := by omega
      obtain ⟨g, c, rfl, hkc, hgB⟩ := own_posC ho (show 0 < k by omega)
      have hlt2 : ¬ (0 : Int) ≤ ((0 : Nat) : Int) - 1 := by omega
      go_wp2_with fail
      refine (pick p _ (k : Int) wr hc (by omega) (by omega) (by omega)).mono ?_
      rintro e w4 ⟨r, rfl, r0, r1, hc4, hg4⟩
      obtain ⟨kk, rfl⟩ := Int.eq_ofNat_of_zero_le r0
      have hkk : kk < k := by omega
      have hkki : (kk : Int) < (k : Int) := by omega
      have hkk0 : (0 : Int) ≤ (kk : Int) := r0
      have ho4 := own_kept ho hg4 (fun g e => by cases e; exact hp)
      have hgg := grown_trans hg hg4
      clear ho hc hg hg4 r0 r1
      obtain ⟨b, o, eA, hbl, q0, q1⟩ := clke.cellsE (RdZ.of_own ho4 HLZ.out) hkk
      obtain ⟨rfl, rfl⟩ : g = b ∧ 0 = o := by injection eA with e; injection e with e1 e2; exact ⟨e1, e2⟩
      rw [Nat.zero_add] at q0 q1
      obtain ⟨x0, x1⟩ := HSM.out.fld kk 0
      generalize fld 2 zs kk 0 = x at *
      generalize fld 2 zs kk 1 = y at *
      have BX := Lib.hid (newS 36 #[.int .i64 x, .int .i64 y] w4)
      have O5 := Lib.hid (ho4.alloc (.cells #[.int .i64 x, .int .i64 y] 36))
      have C5 := Lib.hid (Cur.alloc hc4 (.cells #[.int .i64 x, .int .i64 y] 36))
      have G5 := Lib.hid (grown_trans hgg (grown_alloc (.cells #[.int .i64 x, .int .i64 y] 36) (some p)))
      have hsz := hgg.size
      have hgl := own_lt ho4
      clear ho4 hc4 hgg
      go_upto_region 11 with fail
      clear q0 q1 eA
      generalize hw4 : w4.heap.size = bx at *
      have hbp : bx ≠ p := by omega
      have hgx : g ≠ bx := by omega
      clear hw4
      generalize w4.alloc (.cells #[.int .i64 x, .int .i64 y] 36) = W5 at *
      go_wp2_with fail
      refine (pick p _ 40 W5 C5.out (by omega) (by omega) (by omega)).mono ?_
      rintro e w6 ⟨i, rfl, i0', i1', hc6, hg6⟩
      have HO := Lib.hid (own_kept O5.out hg6 (fun g e => by cases e; exact hp))
      have HC := Lib.hid hc6
      have HG := Lib.hid (grown_trans G5.out hg6)
      have X6 : w6.heap[bx]? = some (.cells #[.int .i64 x, .int .i64 y] 36 (0, 0)) := (hg6.block bx BX.out.2.2.1 (fun e => hbp (by injection e))).trans BX.out.2.2.2
      have HX6 := Lib.hid X6
      clear hc6 hg6 O5 C5 G5 X6 BX
      by_cases h0 : i = 0
      · subst h0
        have b0_ : w6.cell? ⟨bx, 0, none⟩ = some (.int .i64 x) := cell_of_row _ _ 0 _ _ (0, 0) HX6.out
        have e1 : IntKind.i64.wrap (x - 200) = x - 200 := IntWalk.i64_in _ (by omega)
        go_wp2_with fail
        refine (among_new (-100000200) 100000000 p _ 4 [-1, 1000000, 1000001, x - 200] _ w6 HC.out (by omega) (by omega) (by omega) rfl rfl (by intro z hz; simp at hz; omega)).mono ?_
        rintro e w7 ⟨z, rfl, z0, z1, hc7, hg7⟩
        have HO7 := Lib.hid (own_kept HO.out hg7 (fun g e => by cases e; exact hp))
        have X7 : w7.heap[bx]? = some (.cells #[.int .i64 x, .int .i64 y] 36 (0, 0)) := (hg7.block bx (Array.getElem?_eq_some_iff.1 HX6.out).1 (fun e => hbp (by injection e))).trans HX6.out
        have c0_ : w7.cell? ⟨bx, 0, none⟩ = some (.int .i64 x) := cell_of_row _ _ 0 _ _ (0, 0) X7
        have c1_ : w7.cell? ⟨bx, 1, none⟩ = some (.int .i64 y) := cell_of_row _ _ 1 _ _ (0, 0) X7
        have f0_ : w7.frozen? ⟨bx, 0, none⟩ = false := by simp [World.frozen?, X7]
        have HC7 := Lib.hid (Cur.set hc7 (show p < bx by omega) (i := 0) (v := .int .i64 z))
        have HG7 := Lib.hid (grown_put (grown_trans HG.out hg7) (show w.heap.size ≤ bx by omega) (i := 0) (v := .int .i64 z))
        have HO8 := Lib.hid (own_kept_at HO7.out (lst.grown_set (lst.grown_refl w7 (some bx)) 0 (.int .i64 z)) (fun g' e1 e2 => by have e1 : some g = some g' := e1; injection e1 with e1; injection e2 with e2; omega))
        clear HO HC HG hc7 hg7 HO7 X7 HX6 b0_
        have HO := Lib.hid HO8.out
        have HC := Lib.hid HC7.out
        have HG := Lib.hid HG7.out
        clear HO8 HC7 HG7
        obtain ⟨t1, t2, t3⟩ := ends (k := kk) z y HO.out HC.out HG.out hp
        have T1 := Lib.hid t1
        have T2 := Lib.hid t2
        have T3 := Lib.hid t3
        have s0_ := HO.out.cellAt (kk * 2) (by omega)
        have s1_ := HO.out.cellAt (kk * 2 + 1) (by omega)
        obtain ⟨u0, hu0⟩ : ∃ u, (cellsI zs)[kk * 2]? = some u := ⟨_, List.getElem?_eq_getElem (by unfold cellsI; rw [List.length_map, HLZ.out]; omega)⟩
        obtain ⟨u1, hu1⟩ : ∃ u, (cellsI zs)[kk * 2 + 1]? = some u := ⟨_, List.getElem?_eq_getElem (by unfold cellsI; rw [List.length_map, HLZ.out]; omega)⟩
        rw [hu0] at s0_
        rw [hu1] at s1_
        have r0_ := HO.out.frozenAt (kk * 2)
        have r1_ := HO.out.frozenAt (kk * 2 + 1)
        clear t1 t2 t3 hu0 hu1
        go_wp2_with fail
        go_ret
        exact ⟨_, k, _, rfl, T1.out, by omega, T2.out.more (by omega), T3.out⟩
      have d0 : (i == 0) = false := by simpa using h0
      by_cases h1 : i = 1
      · subst h1
        go_wp2_with fail
        refine (among_new (-1) 1000001 p _ 3 [-1, 1000000, 1000001] _ w6 HC.out (by omega) (by omega) (by omega) rfl rfl (by decide)).mono ?_
        rintro e w7 ⟨z, rfl, z0, z1, hc7, hg7⟩
        have HO7 := Lib.hid (own_kept HO.out hg7 (fun g e => by cases e; exact hp))
        have X7 : w7.heap[bx]? = some (.cells #[.int .i64 x, .int .i64 y] 36 (0, 0)) := (hg7.block bx (Array.getElem?_eq_some_iff.1 HX6.out).1 (fun e => hbp (by injection e))).trans HX6.out
        have c0_ : w7.cell? ⟨bx, 0, none⟩ = some (.int .i64 x) := cell_of_row _ _ 0 _ _ (0, 0) X7
        have c1_ : w7.cell? ⟨bx, 1, none⟩ = some (.int .i64 y) := cell_of_row _ _ 1 _ _ (0, 0) X7
        have f0_ : w7.frozen? ⟨bx, 1, none⟩ = false := by simp [World.frozen?, X7]
        have HC7 := Lib.hid (Cur.set hc7 (show p < bx by omega) (i := 1) (v := .int .i64 z))
        have HG7 := Lib.hid (grown_put (grown_trans HG.out hg7) (show w.heap.size ≤ bx by omega) (i := 1) (v := .int .i64 z))
        have HO8 := Lib.hid (own_kept_at HO7.out (lst.grown_set (lst.grown_refl w7 (some bx)) 1 (.int .i64 z)) (fun g' e1 e2 => by have e1 : some g = some g' := e1; injection e1 with e1; injection e2 with e2; omega))
        clear HO HC HG hc7 hg7 HO7 X7 HX6
        have HO := Lib.hid HO8.out
        have HC := Lib.hid HC7.out
        have HG := Lib.hid HG7.out
        clear HO8 HC7 HG7
        obtain ⟨t1, t2, t3⟩ := ends (k := kk) x z HO.out HC.out HG.out hp
        have T1 := Lib.hid t1
        have T2 := Lib.hid t2
        have T3 := Lib.hid t3
        have s0_ := HO.out.cellAt (kk * 2) (by omega)
        have s1_ := HO.out.cellAt (kk * 2 + 1) (by omega)
        obtain ⟨u0, hu0⟩ : ∃ u, (cellsI zs)[kk * 2]? = some u := ⟨_, List.getElem?_eq_getElem (by unfold cellsI; rw [List.length_map, HLZ.out]; omega)⟩
        obtain ⟨u1, hu1⟩ : ∃ u, (cellsI zs)[kk * 2 + 1]? = some u := ⟨_, List.getElem?_eq_getElem (by unfold cellsI; rw [List.length_map, HLZ.out]; omega)⟩
        rw [hu0] at s0_
        rw [hu1] at s1_
        have r0_ := HO.out.frozenAt (kk * 2)
        have r1_ := HO.out.frozenAt (kk * 2 + 1)
        clear t1 t2 t3 hu0 hu1
        go_wp2_with fail
        go_ret
        exact ⟨_, k, _, rfl, T1.out, by omega, T2.out.more (by omega), T3.out⟩
      have d1 : (i == 1) = false := by simpa using h1
      by_cases h2 : i = 2
      · subst h2
        go_wp2_with fail
        go_loopw [3] (fun v wr => ∃ (l g' c' : Nat) (ys : List Int), k ≤ l ∧ l ≤ 13 ∧ v = .slice (some ⟨g', 0, none⟩) l c' ∧ wr.ownsRow w.heap.size 36 2 (.slice (some ⟨g', 0, none⟩) l c') l (cellsI ys) ∧ Cur wr p (m + 300 + 20 * l) ∧ w.grownBy wr (some p) ∧ wr.heap[bx]? = some (.cells #[.int .i64 x, .int .i64 y] 36 (0, 0)) ∧ g' ≠ bx) (fun v _ => 13 - lenV v)
        case atStart => exact ⟨k, g, c, zs, Nat.le_refl _, by omega, rfl, HO.out, HC.out.more (by omega), HG.out, HX6.out, hgx⟩
        case round =>
          obtain ⟨l, g', c', ys, hnl, hl13, rfl, ho, hc, hg, hx, hgb⟩ := hrel
          clear HO HC HG HX6 hgB hgx
          go_wp2_with fail
          refine (pick p _ 2 wr hc (by omega) (by omega) (by omega)).mono ?_
          rintro e w7 ⟨r, rfl, r0, r1, hc7, hg7⟩
          have ho7 := own_kept ho hg7 (fun g e => by cases e; exact hp)
          have hg8 := grown_trans hg hg7
          have hs8 := hg8.size
          have hbl := (Array.getElem?_eq_some_iff.1 hx).1
          have hx7 := (hg7.block bx hbl (fun e => hbp (by injection e))).trans hx
          have e1 : IntKind.i64.wrap (12 + r) = 12 + r := IntWalk.i64_in _ (by omega)
          clear ho hc hg hg7 hx hbl
          by_cases hlt : (l : Int) < 12 + r
          · have e2 : IntKind.i64.wrap (5000 + (l : Int)) = 5000 + (l : Int) := IntWalk.i64_in _ (by omega)
            go_wp2_with (at_builtin; refine wpList_append_own _ rfl (.tmp 72) (.tmp 77) 24 rfl w.heap.size 36 i0 (.agg #[.int .i64 0, .int .i64 0]) 2 16 Try.underlying24 hi hz0 hz1 hz2 rfl (by decide) _ l (cellsI ys) rfl (ho7.alloc _) ⟨w7.heap.size, 0, none⟩ 1 1 [.int .i64 (5000 + (l : Int)), .int .i64 (5000)] rfl rfl (cells_two _ _ _ _) (two_cells _ _) (by unfold maxLen; omega) (by omega) (by simp; omega) ?_; intro v' w9 hown' hgrow hnil)
            have hc9 := Lib.hid (cur_append hc7 ho7 hp hs8 hgrow)
            have hg9 := Lib.hid (grown_append hg8 ho7 (Nat.le_refl _) hgrow)
            have hb7 := (Array.getElem?_eq_some_iff.1 hx7).1
            have hx9 := (hgrow.block bx (by rw [World.size_alloc]; omega) (fun e => hgb (by injection e with e; exact e.symm))).trans ((Below.heap_alloc w7 _ bx hb7).trans hx7)
            have HO9 := own_grow2 hown'
            obtain ⟨g9, c9, rfl, hc9', hg9'⟩ := own_posC HO9 (Nat.succ_pos l)
            have hne9 : g9 ≠ bx := fun e => by
              rcases HO9.2 with ⟨e1, _⟩ | ⟨g3, cap, cur, e1, _, h2, h3, _, h5, _⟩
              · cases e1
              · injection e1 with e1 _ _
                injection e1 with e1
                injection e1 with e1
                rw [← e1, e, hx9] at h2
                injection h2 with h2
                injection h2 with h2
                rw [← h2] at h5
                simp at h5
                omega
            have HX9 := Lib.hid hx9
            have HO9 := Lib.hid HO9
            clear hown' hgrow hnil ho7 hc7 hg8 hs8 hx7 hx9 hb7
            go_roundw
            case rel => exact ⟨l + 1, g9, c9, _, by omega, by omega, rfl, HO9.out, hc9.out.more (by omega), hg9.out, HX9.out, hne9⟩
            case measure => simp [lenV]; omega
          · have HO := Lib.hid ho7
            have HC := Lib.hid hc7
            have HG := Lib.hid hg8
            have HLY := Lib.hid (own_len ho7)
            have hkl : kk < l := by omega
            have hkli : (kk : Int) < (l : Int) := by omega
            have c0_ : w7.cell? ⟨bx, 0, none⟩ = some (.int .i64 x) := cell_of_row _ _ 0 _ _ (0, 0) hx7
            have c1_ : w7.cell? ⟨bx, 1, none⟩ = some (.int .i64 y) := cell_of_row _ _ 1 _ _ (0, 0) hx7
            clear ho7 hc7 hg8 hx7 hs8
            obtain ⟨t1, t2, t3⟩ := ends (k := kk) x y HO.out HC.out HG.out hp
            have T1 := Lib.hid t1
            have T2 := Lib.hid t2
            have T3 := Lib.hid t3
            have s0_ := HO.out.cellAt (kk * 2) (by omega)
            have s1_ := HO.out.cellAt (kk * 2 + 1) (by omega)
            obtain ⟨u0, hu0⟩ : ∃ u, (cellsI ys)[kk * 2]? = some u := ⟨_, List.getElem?_eq_getElem (by unfold cellsI; rw [List.length_map, HLY.out]; omega)⟩
            obtain ⟨u1, hu1⟩ : ∃ u, (cellsI ys)[kk * 2 + 1]? = some u := ⟨_, List.getElem?_eq_getElem (by unfold cellsI; rw [List.length_map, HLY.out]; omega)⟩
            rw [hu0] at s0_
            rw [hu1] at s1_
            have r0_ := HO.out.frozenAt (kk * 2)
            have r1_ := HO.out.frozenAt (kk * 2 + 1)
            clear t1 t2 t3 hu0 hu1
            go_wp2_with fail
            go_ret
            exact ⟨_, l, _, rfl, T1.out, by omega, T2.out.more (by omega), T3.out⟩
      have d2 : (i == 2) = false := by simpa using h2
      by_cases h3 : i = 3
      · subst h3
        have HO3 := Lib.hid (own_nil HO.out)
        clear HO
        go_wp2_with fail
        go_ret
        exact ⟨_, 0, [], rfl, HO3.out, by omega, HC.out.more (by omega), HG.out⟩
      · have d3 : (i == 3) = false := by simpa using h3
        have c0_ : w6.cell? ⟨bx, 0, none⟩ = some (.int .i64 x) := cell_of_row _ _ 0 _ _ (0, 0) HX6.out
        have c1_ : w6.cell? ⟨bx, 1, none⟩ = some (.int .i64 y) := cell_of_row _ _ 1 _ _ (0, 0) HX6.out
        obtain ⟨t1, t2, t3⟩ := ends (k := kk) x y HO.out HC.out HG.out hp
        have T1 := Lib.hid t1
        have T2 := Lib.hid t2
        have T3 := Lib.hid t3
        have s0_ := HO.out.cellAt (kk * 2) (by omega)
        have s1_ := HO.out.cellAt (kk * 2 + 1) (by omega)
        obtain ⟨u0, hu0⟩ : ∃ u, (cellsI zs)[kk * 2]? = some u := ⟨_, List.getElem?_eq_getElem (by unfold cellsI; rw [List.length_map, HLZ.out]; omega)⟩
        obtain ⟨u1, hu1⟩ : ∃ u, (cellsI zs)[kk * 2 + 1]? = some u := ⟨_, List.getElem?_eq_getElem (by unfold cellsI; rw [List.length_map, HLZ.out]; omega)⟩
        rw [hu0] at s0_
        rw [hu1] at s1_
        have r0_ := HO.out.frozenAt (kk * 2)
        have r1_ := HO.out.frozenAt (kk * 2 + 1)
        clear t1 t2 t3 hu0 hu1
        go_wp2_with fail
        go_ret
        exact ⟨_, k, _, rfl, T1.out, by omega, T2.out.more (by omega), T3.out⟩

end Go.Proofs.Ytndogafihaooiaa.draws12
