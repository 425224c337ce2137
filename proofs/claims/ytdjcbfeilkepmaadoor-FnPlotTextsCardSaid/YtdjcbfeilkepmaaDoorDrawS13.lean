/- spec's draws of sightings, windows and reaches. -/
import Derived.Test.YtdjcbfeilkepmaaDoorAtC
import Derived.Test.YtdjcbfeilkepmaaDoorCode
import Derived.Test.YtdjcbfeilkepmaaDoorPltE
import Derived.Test.YtdjcbfeilkepmaaDoorCurInt
import Derived.Deep.AppendLies
import Derived.ChangeAlike
import Derived.Deep.RegionHeld3
import Derived.Deep.CutBlock
import Derived.Deep.CutRange
namespace Go.Proofs.YtdjcbfeilkepmaaDoor.draws13
open Go.RowKit Go.Proofs.YtdjcbfeilkepmaaDoor.cur Go.Proofs.YtdjcbfeilkepmaaDoor.atc Go.Proofs.YtdjcbfeilkepmaaDoor.ats Go.Proofs.YtdjcbfeilkepmaaDoor.ints Go.Proofs.YtdjcbfeilkepmaaDoor.lst Go.Proofs.YtdjcbfeilkepmaaDoor.code_

theorem infoG : (Tryd.prog.info? 72).map (fun i => (i.zero, i.size, i.bytes)) = some (some (.agg #[.int .i64 0, .int .i64 0, .int .i64 0, .int .i64 0, .int .i64 0]), 5, 40) := by kernel_rfl
theorem five_cells (a b c d e : Int) : ∀ u ∈ [Value.int .i64 a, .int .i64 b, .int .i64 c, .int .i64 d, .int .i64 e], u.oneCell' = true := by
  intro u hu
  simp at hu
  rcases hu with rfl | rfl | rfl | rfl | rfl <;> rfl
theorem grown_append {w wr w1 : World} {o : Obj} {p B e size n : Nat} {v : Value} {xs : List Value} (hg : w.grownBy wr (some p)) (h : wr.ownsRow B e size v n xs) (hB : w.heap.size ≤ B) (ha : (wr.alloc o).grownBy w1 v.ownBlock) : w.grownBy w1 (some p) :=
  ⟨ha.os.trans hg.os, ha.tape.trans hg.tape, ha.output.trans hg.output, Nat.le_trans hg.size (Nat.le_trans (by rw [World.size_alloc]; omega) ha.size), fun k hk hne => by
    have h1 := ha.block k (by have := hg.size; rw [World.size_alloc]; omega) (fun e => by have := own_.row_ge h k e.symm; omega)
    have h2 : (wr.alloc o).heap[k]? = wr.heap[k]? := Below.heap_alloc wr o k (by have := hg.size; omega)
    exact h1.trans (h2.trans (hg.block k hk hne))⟩
theorem cur_append {wr w1 : World} {o : Obj} {p m B e size n : Nat} {v : Value} {xs : List Value} (hc : Cur wr p m) (h : wr.ownsRow B e size v n xs) (hB : p < B) (hs : B ≤ wr.heap.size) (ha : (wr.alloc o).grownBy w1 v.ownBlock) : Cur w1 p m :=
  hc.keep (((Below.refl (p + 1) wr).alloc (by omega) o).grown ha (by rw [World.size_alloc]; omega) (fun k e => by have := own_.row_ge h k e; omega))
theorem own_grow5 {w : World} {B e n : Nat} {v : Value} {xs : List Int} {x0 x1 x2 x3 x4 : Int} (h : w.ownsRow B e 5 v (n + 1) (cellsI xs ++ [.int .i64 x0, .int .i64 x1, .int .i64 x2, .int .i64 x3, .int .i64 x4])) : w.ownsRow B e 5 v (n + 1) (cellsI (xs ++ [x0, x1, x2, x3, x4])) := by
  unfold cellsI at h ⊢
  rw [List.map_append]
  exact h
theorem own_len {w : World} {B e n : Nat} {v : Value} {xs : List Int} (h : w.ownsRow B e 5 v n (cellsI xs)) : xs.length = n * 5 := by have := h.1; unfold cellsI at this; simpa using this
theorem own_posC {w : World} {B e s n : Nat} {v : Value} {xs : List Value} (h : w.ownsRow B e s v n xs) (hn : 0 < n) : ∃ g c, v = .slice (some ⟨g, 0, none⟩) n c ∧ n ≤ c ∧ B ≤ g := by
  rcases h.2 with ⟨_, e2⟩ | ⟨g, cap, cur, e2, _, _, hle, _⟩
  · omega
  · exact ⟨g, cap, e2, hle, own_.row_ge h g (by rw [e2]; rfl)⟩
theorem cells_set (xs : List Int) (j : Nat) (a : Int) : (cellsI xs).set j (.int .i64 a) = cellsI (xs.set j a) := by unfold cellsI; rw [List.map_set]
theorem grown_put {w W : World} {p b i : Nat} {v : Value} (h : w.grownBy W (some p)) (hb : w.heap.size ≤ b) : w.grownBy (W.setCell ⟨b, i, none⟩ v) (some p) :=
  ⟨h.os, h.tape, h.output, by have := h.size; simpa [World.setCell] using this, fun k hk hne => (Go.Deep.blk_setCell_other W ⟨b, i, none⟩ v k (by show k ≠ b; omega)).trans (h.block k hk hne)⟩
theorem at_grown {T : TypeId} {cs : Array Value} {w W W' : World} {b p : Nat} (h : AtS T cs w W b) (hg : W.grownBy W' (some p)) (hne : b ≠ p) : W'.heap[b]? = some (.cells cs T (0, 0)) :=
  (hg.block b h.2.2.1 (fun e => hne (by injection e))).trans h.2.2.2
def lenV : Value → Nat
  | .slice _ k _ => k
  | _ => 0
def SightQ (p m : Nat) (w : World) (e : Ending) (w' : World) : Prop := ∃ v n zs, e = .returned v ∧ w'.ownsRow w.heap.size 72 5 v n (cellsI zs) ∧ n ≤ 21 ∧ Cur w' p m ∧ w.grownBy w' (some p)
/-- The end: out[k] = x. -/
theorem ends {w W : World} {p m g n c k : Nat} {zs : List Int} (x0 x1 x2 x3 x4 : Int) (ho : W.ownsRow w.heap.size 72 5 (.slice (some ⟨g, 0, none⟩) n c) n (cellsI zs)) (hc : Cur W p m) (hg : w.grownBy W (some p)) (hp : p < w.heap.size) :
    (((((W.setCell ⟨g, k * 5, none⟩ (.int .i64 x0)).setCell ⟨g, k * 5 + 1, none⟩ (.int .i64 x1)).setCell ⟨g, k * 5 + 2, none⟩ (.int .i64 x2)).setCell ⟨g, k * 5 + 3, none⟩ (.int .i64 x3)).setCell ⟨g, k * 5 + 4, none⟩ (.int .i64 x4)).ownsRow w.heap.size 72 5 (.slice (some ⟨g, 0, none⟩) n c) n (cellsI (((((zs.set (k * 5) x0).set (k * 5 + 1) x1).set (k * 5 + 2) x2).set (k * 5 + 3) x3).set (k * 5 + 4) x4)) ∧ Cur (((((W.setCell ⟨g, k * 5, none⟩ (.int .i64 x0)).setCell ⟨g, k * 5 + 1, none⟩ (.int .i64 x1)).setCell ⟨g, k * 5 + 2, none⟩ (.int .i64 x2)).setCell ⟨g, k * 5 + 3, none⟩ (.int .i64 x3)).setCell ⟨g, k * 5 + 4, none⟩ (.int .i64 x4)) p m ∧ w.grownBy (((((W.setCell ⟨g, k * 5, none⟩ (.int .i64 x0)).setCell ⟨g, k * 5 + 1, none⟩ (.int .i64 x1)).setCell ⟨g, k * 5 + 2, none⟩ (.int .i64 x2)).setCell ⟨g, k * 5 + 3, none⟩ (.int .i64 x3)).setCell ⟨g, k * 5 + 4, none⟩ (.int .i64 x4)) (some p) := by
  have hgB := own_.row_ge ho g rfl
  have hpg : p < g := by omega
  have s0 := (ho.stored (k * 5) (.int .i64 x0)).1
  rw [cells_set] at s0
  have s1 := (s0.stored (k * 5 + 1) (.int .i64 x1)).1
  rw [cells_set] at s1
  have s2 := (s1.stored (k * 5 + 2) (.int .i64 x2)).1
  rw [cells_set] at s2
  have s3 := (s2.stored (k * 5 + 3) (.int .i64 x3)).1
  rw [cells_set] at s3
  have s4 := (s3.stored (k * 5 + 4) (.int .i64 x4)).1
  rw [cells_set] at s4
  exact ⟨s4, (Cur.set (Cur.set (Cur.set (Cur.set (Cur.set hc hpg) hpg) hpg) hpg) hpg), (grown_put (grown_put (grown_put (grown_put (grown_put hg hgB) hgB) hgB) hgB) hgB)⟩
theorem least13 (a b : Int) (w : World) :
    Calls Tryd.prog 89 #[.int .i64 a, .int .i64 b] w fun e w' => e = .returned (.int .i64 (min a b)) ∧ w' = w := by
  by_cases h : a < b
  · have e1 : min a b = a := by omega
    rw [e1]
    clear e1
    go_enter Tryd.func89, Tryd.ntmps89
    go_wp2_with fail
    go_ret
    exact ⟨rfl, rfl⟩
  · have g : decide (a < b) = false := decide_eq_false h
    have e1 : min a b = b := by omega
    rw [e1]
    clear e1
    go_enter Tryd.func89, Tryd.ntmps89
    go_wp2_with fail
    go_ret
    exact ⟨rfl, rfl⟩

set_option maxRecDepth 100000 in
set_option maxHeartbeats 16000000 in
theorem sightings (p m : Nat) (w : World) (h : Cur w p m) (hm : m ≤ 100000) :
    Calls Tryd.prog 78 #[.pointer (some ⟨p, 0, none⟩)] w (SightQ p (m + 1000) w) := by
  have hp := h.lt
  obtain ⟨i0, hi, hz0, hz1, hz2⟩ := info_parts infoG
  have O0 := Lib.hid (own_emptyZ w 72 5)
  have HC0 := Lib.hid (h.keep ((Below.refl (p + 1) w).alloc (by omega) (.cells #[] 72)))
  have G0 := Lib.hid (show w.grownBy (w.alloc (.cells #[] 72)) (some p) from grown_alloc _ _)
  clear h
  go_enter Tryd.func78, Tryd.ntmps78
  go_upto_region 2 with fail
  generalize w.alloc (.cells #[] 72) = W at *
  go_wp2_with fail
  refine (among_new (0) 86380 p _ 3 [0, 100, 86380] _ W HC0.out (by omega) (by omega) (by omega) rfl rfl (by decide)).mono ?_
  rintro e w1 ⟨a, rfl, al, ah, hcN, hgN⟩
  have O1 := Lib.hid (own_kept O0.out hgN (fun g e => by cases e; exact hp))
  have HC1 := Lib.hid hcN
  have G1 := Lib.hid (grown_trans G0.out hgN)
  clear hcN hgN O0 HC0 G0
  go_wp2_with fail
  refine (pick p _ 10 w1 HC1.out (by omega) (by omega) (by omega)).mono ?_
  rintro e w2 ⟨r, rfl, rl, rh, hcN, hgN⟩
  have O2 := Lib.hid (own_kept O1.out hgN (fun g e => by cases e; exact hp))
  have HC2 := Lib.hid hcN
  have G2 := Lib.hid (grown_trans G1.out hgN)
  clear hcN hgN O1 HC1 G1
  obtain ⟨q0, rfl⟩ := Int.eq_ofNat_of_zero_le rl
  go_wp2_with fail
  go_loopw [3, 4, 5, 6] (fun v av nv _ wr => ∃ (t k : Nat) (a : Int) (zs : List Int), t + k ≤ 9 ∧ nv = .int .i64 (t : Int) ∧ av = .int .i64 a ∧ 0 ≤ a ∧ a ≤ 86400 ∧ wr.ownsRow w.heap.size 72 5 v k (cellsI zs) ∧ Cur wr p (m + 20 + 20 * k) ∧ w.grownBy wr (some p)) (fun _ _ nv _ _ => (intOf nv).toNat)
  case atStart => exact ⟨q0, 0, a, [], by omega, rfl, rfl, al, by omega, O2.out, HC2.out.more (by omega), G2.out⟩
  case round =>
    obtain ⟨t, k, a, zs, ht, rfl, rfl, a0, a1, ho, hc, hg⟩ := hrel
    clear O2 HC2 G2
    have HLZ := Lib.hid (own_len ho)
    have O3 := Lib.hid ho
    have C3 := Lib.hid hc
    have G3 := Lib.hid hg
    clear ho hc hg
    by_cases hlt : 0 < t
    · have hlt2 : (0 : Int) < (t : Int) := by omega
      go_wp2_with fail
      refine (pick p _ 4 wr C3.out (by omega) (by omega) (by omega)).mono ?_
      rintro e w4 ⟨b, rfl, bl, bh, hcN, hgN⟩
      have O4 := Lib.hid (own_kept O3.out hgN (fun g e => by cases e; exact hp))
      have C4 := Lib.hid hcN
      have G4 := Lib.hid (grown_trans G3.out hgN)
      clear hcN hgN O3 C3 G3
      have e1 : IntKind.i64.wrap (1 + b) = 1 + b := IntWalk.i64_in _ (by omega)
      go_wp2_with fail
      refine (among_new (7) 4711 p _ 3 [7, 7, 4711] _ w4 C4.out (by omega) (by omega) (by omega) rfl rfl (by decide)).mono ?_
      rintro e w5 ⟨d, rfl, dl, dh, hcN, hgN⟩
      have O5 := Lib.hid (own_kept O4.out hgN (fun g e => by cases e; exact hp))
      have C5 := Lib.hid hcN
      have G5 := Lib.hid (grown_trans G4.out hgN)
      clear hcN hgN O4 C4 G4
      go_wp2_with fail
      refine (among_new (100) 150 p _ 4 [100, 101, 105, 150] _ w5 C5.out (by omega) (by omega) (by omega) rfl rfl (by decide)).mono ?_
      rintro e w6 ⟨x, rfl, xl, xh, hcN, hgN⟩
      have O6 := Lib.hid (own_kept O5.out hgN (fun g e => by cases e; exact hp))
      have C6 := Lib.hid hcN
      have G6 := Lib.hid (grown_trans G5.out hgN)
      clear hcN hgN O5 C5 G5
      go_wp2_with fail
      refine (among_new (9000) 9010 p _ 3 [9000, 9001, 9010] _ w6 C6.out (by omega) (by omega) (by omega) rfl rfl (by decide)).mono ?_
      rintro e w7 ⟨y, rfl, yl, yh, hcN, hgN⟩
      have O7 := Lib.hid (own_kept O6.out hgN (fun g e => by cases e; exact hp))
      have C7 := Lib.hid hcN
      have G7 := Lib.hid (grown_trans G6.out hgN)
      clear hcN hgN O6 C6 G6
      go_upto_region 7 with fail
      have N8 := Lib.hid (newS 72 #[.int .i64 a, .int .i64 (1 + b), .int .i64 d, .int .i64 x, .int .i64 y] w7)
      have O8 := (O7.out.alloc (.cells #[.int .i64 a, .int .i64 (1 + b), .int .i64 d, .int .i64 x, .int .i64 y] 72))
      have C8 := (Cur.alloc C7.out (.cells #[.int .i64 a, .int .i64 (1 + b), .int .i64 d, .int .i64 x, .int .i64 y] 72))
      have G8 := (grown_trans G7.out (grown_alloc (.cells #[.int .i64 a, .int .i64 (1 + b), .int .i64 d, .int .i64 x, .int .i64 y] 72) (some p)))
      clear O7 C7 G7
      generalize w7.alloc (.cells #[.int .i64 a, .int .i64 (1 + b), .int .i64 d, .int .i64 x, .int .i64 y] 72) = w8 at *
      generalize w7.heap.size = b8 at *
      have n0 : w8.cell? ⟨b8, 0, none⟩ = some (.int .i64 a) := N8.out.cell 0
      have n1 : w8.cell? ⟨b8, 1, none⟩ = some (.int .i64 (1 + b)) := N8.out.cell 1
      have n2 : w8.cell? ⟨b8, 2, none⟩ = some (.int .i64 d) := N8.out.cell 2
      have n3 : w8.cell? ⟨b8, 3, none⟩ = some (.int .i64 x) := N8.out.cell 3
      have n4 : w8.cell? ⟨b8, 4, none⟩ = some (.int .i64 y) := N8.out.cell 4
      have hs8 := G8.size
      go_wp2_with (at_builtin; refine wpList_append_own _ rfl (.tmp 34) (.tmp 36) 37 rfl w.heap.size 72 i0 (.agg #[.int .i64 0, .int .i64 0, .int .i64 0, .int .i64 0, .int .i64 0]) 5 40 Tryd.underlying37 hi hz0 hz1 hz2 rfl (by decide) _ k (cellsI zs) rfl (O8.alloc _) ⟨w8.heap.size, 0, none⟩ 1 1 [.int .i64 a, .int .i64 (1 + b), .int .i64 d, .int .i64 x, .int .i64 y] rfl rfl (cells_new _ _ #[.int .i64 a, .int .i64 (1 + b), .int .i64 d, .int .i64 x, .int .i64 y]) (five_cells _ _ _ _ _) (by unfold maxLen; omega) (by omega) (by simp; omega) ?_; intro v' w9 hown' hgrow hnil)
      have C9 := Lib.hid (cur_append C8 O8 hp hs8 hgrow)
      have G9 := Lib.hid (grown_append G8 O8 (Nat.le_refl _) hgrow)
      have O9 := Lib.hid (own_grow5 hown')
      clear hown' hgrow hnil O8 C8 G8 hs8 N8 n0 n1 n2 n3 n4
      go_wp2_with fail
      refine (among_new (0) 10 p _ 5 [0, 0, 1, 2, 10] _ w9 C9.out (by omega) (by omega) (by omega) rfl rfl (by decide)).mono ?_
      rintro e wa ⟨z, rfl, zl, zh, hcN, hgN⟩
      have OA := Lib.hid (own_kept O9.out hgN (fun g e => by cases e; exact hp))
      have CA := Lib.hid hcN
      have GA := Lib.hid (grown_trans G9.out hgN)
      clear hcN hgN O9 C9 G9
      have e3 : IntKind.i64.wrap (a + z) = a + z := IntWalk.i64_in _ (by omega)
      have e4 : IntKind.i64.wrap ((t : Int) - 1) = (t : Int) - 1 := IntWalk.i64_in _ (by omega)
      go_wp2_with fail
      refine (least13 (a + z) 86400 wa).mono ?_
      rintro e wx ⟨rfl, rfl⟩
      have ml : 0 ≤ min (a + z) 86400 ∧ min (a + z) 86400 ≤ 86400 := by omega
      generalize min (a + z) 86400 = a' at *
      go_wp2_with fail
      go_roundw
      case rel => exact ⟨t - 1, k + 1, a', _, by omega, (by show Value.int .i64 _ = Value.int .i64 _; congr 1; omega), rfl, ml.1, ml.2, OA.out, CA.out.more (by omega), GA.out⟩
      case measure => simp [intOf]; omega
    · obtain rfl : t = 0 := by omega
      rcases Nat.eq_zero_or_pos k with hk0 | hk1
      · subst hk0
        obtain ⟨A0, c0, rfl⟩ := own_sliceZ O3.out
        go_wp2_with fail
        go_ret
        exact ⟨_, 0, zs, rfl, O3.out, by omega, C3.out.more (by omega), G3.out⟩
      obtain ⟨g, c, rfl, hkc, hgB⟩ := own_posC O3.out (show 0 < k by omega)
      have hk0 : ((k : Int) == 0) = false := by simp; omega
      go_wp2_with fail
      refine (pick p _ (k : Int) wr C3.out (by omega) (by omega) (by omega)).mono ?_
      rintro e w4 ⟨r, rfl, r0, r1, hc4, hg4⟩
      obtain ⟨kk, rfl⟩ := Int.eq_ofNat_of_zero_le r0
      have hkk : kk < k := by omega
      have hkki : (kk : Int) < (k : Int) := by omega
      have hkk0 : (0 : Int) ≤ (kk : Int) := r0
      have ho4 := own_kept O3.out hg4 (fun g e => by cases e; exact hp)
      have hgg := grown_trans G3.out hg4
      clear O3 C3 G3 hg4 r0 r1
      obtain ⟨b, o, eA, hbl, q0, q1, q2, q3, q4⟩ := plte.cellsE (RdZ.of_own ho4 HLZ.out) hkk
      obtain ⟨rfl, rfl⟩ : g = b ∧ 0 = o := by injection eA with e; injection e with e1 e2; exact ⟨e1, e2⟩
      rw [Nat.zero_add] at q0 q1 q2 q3 q4
      generalize fld 5 zs kk 0 = x0 at *
      generalize fld 5 zs kk 1 = x1 at *
      generalize fld 5 zs kk 2 = x2 at *
      generalize fld 5 zs kk 3 = x3 at *
      generalize fld 5 zs kk 4 = x4 at *
      have BX := Lib.hid (newS 72 #[.int .i64 x0, .int .i64 x1, .int .i64 x2, .int .i64 x3, .int .i64 x4] w4)
      have O5 := Lib.hid (ho4.alloc (.cells #[.int .i64 x0, .int .i64 x1, .int .i64 x2, .int .i64 x3, .int .i64 x4] 72))
      have C5 := Lib.hid (Cur.alloc hc4 (.cells #[.int .i64 x0, .int .i64 x1, .int .i64 x2, .int .i64 x3, .int .i64 x4] 72))
      have G5 := Lib.hid (grown_trans hgg (grown_alloc (.cells #[.int .i64 x0, .int .i64 x1, .int .i64 x2, .int .i64 x3, .int .i64 x4] 72) (some p)))
      have hsz := hgg.size
      have hgl := own_lt ho4
      clear ho4 hc4 hgg
      go_upto_region 13 with fail
      clear q0 q1 q2 q3 q4 eA
      generalize hw4 : w4.heap.size = bx at *
      have hbp : bx ≠ p := by omega
      have hgx : g ≠ bx := by omega
      clear hw4
      generalize w4.alloc (.cells #[.int .i64 x0, .int .i64 x1, .int .i64 x2, .int .i64 x3, .int .i64 x4] 72) = W5 at *
      go_wp2_with fail
      refine (pick p _ 40 W5 C5.out (by omega) (by omega) (by omega)).mono ?_
      rintro e w6 ⟨i, rfl, i0', i1', hc6, hg6⟩
      have HO := Lib.hid (own_kept O5.out hg6 (fun g e => by cases e; exact hp))
      have HC := Lib.hid hc6
      have HG := Lib.hid (grown_trans G5.out hg6)
      have HX6 := Lib.hid (show w6.heap[bx]? = some (.cells #[.int .i64 x0, .int .i64 x1, .int .i64 x2, .int .i64 x3, .int .i64 x4] 72 (0, 0)) from (hg6.block bx BX.out.2.2.1 (fun e => hbp (by injection e))).trans BX.out.2.2.2)
      clear hc6 hg6 O5 C5 G5 BX
      by_cases h0 : i = 0
      · subst h0
        go_wp2_with fail
        refine (among_new (-1) 86401 p _ 4 [-1, 86400, 86401, 0] _ w6 HC.out (by omega) (by omega) (by omega) rfl rfl (by decide)).mono ?_
        rintro e w7 ⟨z, rfl, z0, z1, hc7, hg7⟩
        have HO7 := Lib.hid (own_kept HO.out hg7 (fun g e => by cases e; exact hp))
        have X7 : w7.heap[bx]? = some (.cells #[.int .i64 x0, .int .i64 x1, .int .i64 x2, .int .i64 x3, .int .i64 x4] 72 (0, 0)) := (hg7.block bx (Array.getElem?_eq_some_iff.1 HX6.out).1 (fun e => hbp (by injection e))).trans HX6.out
        have c0_ : w7.cell? ⟨bx, 0, none⟩ = some (.int .i64 x0) := cell_of_row _ _ 0 _ _ (0, 0) X7
        have c1_ : w7.cell? ⟨bx, 1, none⟩ = some (.int .i64 x1) := cell_of_row _ _ 1 _ _ (0, 0) X7
        have c2_ : w7.cell? ⟨bx, 2, none⟩ = some (.int .i64 x2) := cell_of_row _ _ 2 _ _ (0, 0) X7
        have c3_ : w7.cell? ⟨bx, 3, none⟩ = some (.int .i64 x3) := cell_of_row _ _ 3 _ _ (0, 0) X7
        have c4_ : w7.cell? ⟨bx, 4, none⟩ = some (.int .i64 x4) := cell_of_row _ _ 4 _ _ (0, 0) X7
        have f0_ : w7.frozen? ⟨bx, 0, none⟩ = false := by simp [World.frozen?, X7]
        have HC7 := Lib.hid (Cur.set hc7 (show p < bx by omega) (i := 0) (v := .int .i64 z))
        have HG7 := Lib.hid (grown_put (grown_trans HG.out hg7) (show w.heap.size ≤ bx by omega) (i := 0) (v := .int .i64 z))
        have HO8 := Lib.hid (own_kept_at HO7.out (lst.grown_set (lst.grown_refl w7 (some bx)) 0 (.int .i64 z)) (fun g' e1 e2 => by have e1 : some g = some g' := e1; injection e1 with e1; injection e2 with e2; omega))
        clear HO HC HG hc7 hg7 HO7 X7 HX6
        have HO := Lib.hid HO8.out
        have HC := Lib.hid HC7.out
        have HG := Lib.hid HG7.out
        clear HO8 HC7 HG7
        obtain ⟨t1, t2, t3⟩ := ends (k := kk) z x1 x2 x3 x4 HO.out HC.out HG.out hp
        have T1 := Lib.hid t1
        have T2 := Lib.hid t2
        have T3 := Lib.hid t3
        have s0_ := HO.out.cellAt (kk * 5) (by omega)
        obtain ⟨u0, hu0⟩ : ∃ u, (cellsI zs)[kk * 5]? = some u := ⟨_, List.getElem?_eq_getElem (by unfold cellsI; rw [List.length_map, HLZ.out]; omega)⟩
        rw [hu0] at s0_
        have r0_ := HO.out.frozenAt (kk * 5)
        have s1_ := HO.out.cellAt (kk * 5 + 1) (by omega)
        obtain ⟨u1, hu1⟩ : ∃ u, (cellsI zs)[kk * 5 + 1]? = some u := ⟨_, List.getElem?_eq_getElem (by unfold cellsI; rw [List.length_map, HLZ.out]; omega)⟩
        rw [hu1] at s1_
        have r1_ := HO.out.frozenAt (kk * 5 + 1)
        have s2_ := HO.out.cellAt (kk * 5 + 2) (by omega)
        obtain ⟨u2, hu2⟩ : ∃ u, (cellsI zs)[kk * 5 + 2]? = some u := ⟨_, List.getElem?_eq_getElem (by unfold cellsI; rw [List.length_map, HLZ.out]; omega)⟩
        rw [hu2] at s2_
        have r2_ := HO.out.frozenAt (kk * 5 + 2)
        have s3_ := HO.out.cellAt (kk * 5 + 3) (by omega)
        obtain ⟨u3, hu3⟩ : ∃ u, (cellsI zs)[kk * 5 + 3]? = some u := ⟨_, List.getElem?_eq_getElem (by unfold cellsI; rw [List.length_map, HLZ.out]; omega)⟩
        rw [hu3] at s3_
        have r3_ := HO.out.frozenAt (kk * 5 + 3)
        have s4_ := HO.out.cellAt (kk * 5 + 4) (by omega)
        obtain ⟨u4, hu4⟩ : ∃ u, (cellsI zs)[kk * 5 + 4]? = some u := ⟨_, List.getElem?_eq_getElem (by unfold cellsI; rw [List.length_map, HLZ.out]; omega)⟩
        rw [hu4] at s4_
        have r4_ := HO.out.frozenAt (kk * 5 + 4)
        clear t1 t2 t3 hu0 hu1 hu2 hu3 hu4
        go_wp2_with fail
        go_ret
        exact ⟨_, k, _, rfl, T1.out, by omega, T2.out.more (by omega), T3.out⟩
      have d0 : (i == 0) = false := by simpa using h0
      by_cases h1 : i = 1
      · subst h1
        go_wp2_with fail
        refine (among_new (0) 10 p _ 3 [0, 9, 10] _ w6 HC.out (by omega) (by omega) (by omega) rfl rfl (by decide)).mono ?_
        rintro e w7 ⟨z, rfl, z0, z1, hc7, hg7⟩
        have HO7 := Lib.hid (own_kept HO.out hg7 (fun g e => by cases e; exact hp))
        have X7 : w7.heap[bx]? = some (.cells #[.int .i64 x0, .int .i64 x1, .int .i64 x2, .int .i64 x3, .int .i64 x4] 72 (0, 0)) := (hg7.block bx (Array.getElem?_eq_some_iff.1 HX6.out).1 (fun e => hbp (by injection e))).trans HX6.out
        have c0_ : w7.cell? ⟨bx, 0, none⟩ = some (.int .i64 x0) := cell_of_row _ _ 0 _ _ (0, 0) X7
        have c1_ : w7.cell? ⟨bx, 1, none⟩ = some (.int .i64 x1) := cell_of_row _ _ 1 _ _ (0, 0) X7
        have c2_ : w7.cell? ⟨bx, 2, none⟩ = some (.int .i64 x2) := cell_of_row _ _ 2 _ _ (0, 0) X7
        have c3_ : w7.cell? ⟨bx, 3, none⟩ = some (.int .i64 x3) := cell_of_row _ _ 3 _ _ (0, 0) X7
        have c4_ : w7.cell? ⟨bx, 4, none⟩ = some (.int .i64 x4) := cell_of_row _ _ 4 _ _ (0, 0) X7
        have f1_ : w7.frozen? ⟨bx, 1, none⟩ = false := by simp [World.frozen?, X7]
        have HC7 := Lib.hid (Cur.set hc7 (show p < bx by omega) (i := 1) (v := .int .i64 z))
        have HG7 := Lib.hid (grown_put (grown_trans HG.out hg7) (show w.heap.size ≤ bx by omega) (i := 1) (v := .int .i64 z))
        have HO8 := Lib.hid (own_kept_at HO7.out (lst.grown_set (lst.grown_refl w7 (some bx)) 1 (.int .i64 z)) (fun g' e1 e2 => by have e1 : some g = some g' := e1; injection e1 with e1; injection e2 with e2; omega))
        clear HO HC HG hc7 hg7 HO7 X7 HX6
        have HO := Lib.hid HO8.out
        have HC := Lib.hid HC7.out
        have HG := Lib.hid HG7.out
        clear HO8 HC7 HG7
        obtain ⟨t1, t2, t3⟩ := ends (k := kk) x0 z x2 x3 x4 HO.out HC.out HG.out hp
        have T1 := Lib.hid t1
        have T2 := Lib.hid t2
        have T3 := Lib.hid t3
        have s0_ := HO.out.cellAt (kk * 5) (by omega)
        obtain ⟨u0, hu0⟩ : ∃ u, (cellsI zs)[kk * 5]? = some u := ⟨_, List.getElem?_eq_getElem (by unfold cellsI; rw [List.length_map, HLZ.out]; omega)⟩
        rw [hu0] at s0_
        have r0_ := HO.out.frozenAt (kk * 5)
        have s1_ := HO.out.cellAt (kk * 5 + 1) (by omega)
        obtain ⟨u1, hu1⟩ : ∃ u, (cellsI zs)[kk * 5 + 1]? = some u := ⟨_, List.getElem?_eq_getElem (by unfold cellsI; rw [List.length_map, HLZ.out]; omega)⟩
        rw [hu1] at s1_
        have r1_ := HO.out.frozenAt (kk * 5 + 1)
        have s2_ := HO.out.cellAt (kk * 5 + 2) (by omega)
        obtain ⟨u2, hu2⟩ : ∃ u, (cellsI zs)[kk * 5 + 2]? = some u := ⟨_, List.getElem?_eq_getElem (by unfold cellsI; rw [List.length_map, HLZ.out]; omega)⟩
        rw [hu2] at s2_
        have r2_ := HO.out.frozenAt (kk * 5 + 2)
        have s3_ := HO.out.cellAt (kk * 5 + 3) (by omega)
        obtain ⟨u3, hu3⟩ : ∃ u, (cellsI zs)[kk * 5 + 3]? = some u := ⟨_, List.getElem?_eq_getElem (by unfold cellsI; rw [List.length_map, HLZ.out]; omega)⟩
        rw [hu3] at s3_
        have r3_ := HO.out.frozenAt (kk * 5 + 3)
        have s4_ := HO.out.cellAt (kk * 5 + 4) (by omega)
        obtain ⟨u4, hu4⟩ : ∃ u, (cellsI zs)[kk * 5 + 4]? = some u := ⟨_, List.getElem?_eq_getElem (by unfold cellsI; rw [List.length_map, HLZ.out]; omega)⟩
        rw [hu4] at s4_
        have r4_ := HO.out.frozenAt (kk * 5 + 4)
        clear t1 t2 t3 hu0 hu1 hu2 hu3 hu4
        go_wp2_with fail
        go_ret
        exact ⟨_, k, _, rfl, T1.out, by omega, T2.out.more (by omega), T3.out⟩
      have d1 : (i == 1) = false := by simpa using h1
      by_cases h2 : i = 2
      · subst h2
        go_wp2_with fail
        refine (among_new (0) 65536 p _ 3 [0, 65535, 65536] _ w6 HC.out (by omega) (by omega) (by omega) rfl rfl (by decide)).mono ?_
        rintro e w7 ⟨z, rfl, z0, z1, hc7, hg7⟩
        have HO7 := Lib.hid (own_kept HO.out hg7 (fun g e => by cases e; exact hp))
        have X7 : w7.heap[bx]? = some (.cells #[.int .i64 x0, .int .i64 x1, .int .i64 x2, .int .i64 x3, .int .i64 x4] 72 (0, 0)) := (hg7.block bx (Array.getElem?_eq_some_iff.1 HX6.out).1 (fun e => hbp (by injection e))).trans HX6.out
        have c0_ : w7.cell? ⟨bx, 0, none⟩ = some (.int .i64 x0) := cell_of_row _ _ 0 _ _ (0, 0) X7
        have c1_ : w7.cell? ⟨bx, 1, none⟩ = some (.int .i64 x1) := cell_of_row _ _ 1 _ _ (0, 0) X7
        have c2_ : w7.cell? ⟨bx, 2, none⟩ = some (.int .i64 x2) := cell_of_row _ _ 2 _ _ (0, 0) X7
        have c3_ : w7.cell? ⟨bx, 3, none⟩ = some (.int .i64 x3) := cell_of_row _ _ 3 _ _ (0, 0) X7
        have c4_ : w7.cell? ⟨bx, 4, none⟩ = some (.int .i64 x4) := cell_of_row _ _ 4 _ _ (0, 0) X7
        have f2_ : w7.frozen? ⟨bx, 2, none⟩ = false := by simp [World.frozen?, X7]
        have HC7 := Lib.hid (Cur.set hc7 (show p < bx by omega) (i := 2) (v := .int .i64 z))
        have HG7 := Lib.hid (grown_put (grown_trans HG.out hg7) (show w.heap.size ≤ bx by omega) (i := 2) (v := .int .i64 z))
        have HO8 := Lib.hid (own_kept_at HO7.out (lst.grown_set (lst.grown_refl w7 (some bx)) 2 (.int .i64 z)) (fun g' e1 e2 => by have e1 : some g = some g' := e1; injection e1 with e1; injection e2 with e2; omega))
        clear HO HC HG hc7 hg7 HO7 X7 HX6
        have HO := Lib.hid HO8.out
        have HC := Lib.hid HC7.out
        have HG := Lib.hid HG7.out
        clear HO8 HC7 HG7
        obtain ⟨t1, t2, t3⟩ := ends (k := kk) x0 x1 z x3 x4 HO.out HC.out HG.out hp
        have T1 := Lib.hid t1
        have T2 := Lib.hid t2
        have T3 := Lib.hid t3
        have s0_ := HO.out.cellAt (kk * 5) (by omega)
        obtain ⟨u0, hu0⟩ : ∃ u, (cellsI zs)[kk * 5]? = some u := ⟨_, List.getElem?_eq_getElem (by unfold cellsI; rw [List.length_map, HLZ.out]; omega)⟩
        rw [hu0] at s0_
        have r0_ := HO.out.frozenAt (kk * 5)
        have s1_ := HO.out.cellAt (kk * 5 + 1) (by omega)
        obtain ⟨u1, hu1⟩ : ∃ u, (cellsI zs)[kk * 5 + 1]? = some u := ⟨_, List.getElem?_eq_getElem (by unfold cellsI; rw [List.length_map, HLZ.out]; omega)⟩
        rw [hu1] at s1_
        have r1_ := HO.out.frozenAt (kk * 5 + 1)
        have s2_ := HO.out.cellAt (kk * 5 + 2) (by omega)
        obtain ⟨u2, hu2⟩ : ∃ u, (cellsI zs)[kk * 5 + 2]? = some u := ⟨_, List.getElem?_eq_getElem (by unfold cellsI; rw [List.length_map, HLZ.out]; omega)⟩
        rw [hu2] at s2_
        have r2_ := HO.out.frozenAt (kk * 5 + 2)
        have s3_ := HO.out.cellAt (kk * 5 + 3) (by omega)
        obtain ⟨u3, hu3⟩ : ∃ u, (cellsI zs)[kk * 5 + 3]? = some u := ⟨_, List.getElem?_eq_getElem (by unfold cellsI; rw [List.length_map, HLZ.out]; omega)⟩
        rw [hu3] at s3_
        have r3_ := HO.out.frozenAt (kk * 5 + 3)
        have s4_ := HO.out.cellAt (kk * 5 + 4) (by omega)
        obtain ⟨u4, hu4⟩ : ∃ u, (cellsI zs)[kk * 5 + 4]? = some u := ⟨_, List.getElem?_eq_getElem (by unfold cellsI; rw [List.length_map, HLZ.out]; omega)⟩
        rw [hu4] at s4_
        have r4_ := HO.out.frozenAt (kk * 5 + 4)
        clear t1 t2 t3 hu0 hu1 hu2 hu3 hu4
        go_wp2_with fail
        go_ret
        exact ⟨_, k, _, rfl, T1.out, by omega, T2.out.more (by omega), T3.out⟩
      have d2 : (i == 2) = false := by simpa using h2
      by_cases h3 : i = 3
      · subst h3
        go_wp2_with fail
        refine (among_new (-1) 9900 p _ 3 [-1, 9899, 9900] _ w6 HC.out (by omega) (by omega) (by omega) rfl rfl (by decide)).mono ?_
        rintro e w7 ⟨z, rfl, z0, z1, hc7, hg7⟩
        have HO7 := Lib.hid (own_kept HO.out hg7 (fun g e => by cases e; exact hp))
        have X7 : w7.heap[bx]? = some (.cells #[.int .i64 x0, .int .i64 x1, .int .i64 x2, .int .i64 x3, .int .i64 x4] 72 (0, 0)) := (hg7.block bx (Array.getElem?_eq_some_iff.1 HX6.out).1 (fun e => hbp (by injection e))).trans HX6.out
        have c0_ : w7.cell? ⟨bx, 0, none⟩ = some (.int .i64 x0) := cell_of_row _ _ 0 _ _ (0, 0) X7
        have c1_ : w7.cell? ⟨bx, 1, none⟩ = some (.int .i64 x1) := cell_of_row _ _ 1 _ _ (0, 0) X7
        have c2_ : w7.cell? ⟨bx, 2, none⟩ = some (.int .i64 x2) := cell_of_row _ _ 2 _ _ (0, 0) X7
        have c3_ : w7.cell? ⟨bx, 3, none⟩ = some (.int .i64 x3) := cell_of_row _ _ 3 _ _ (0, 0) X7
        have c4_ : w7.cell? ⟨bx, 4, none⟩ = some (.int .i64 x4) := cell_of_row _ _ 4 _ _ (0, 0) X7
        have f3_ : w7.frozen? ⟨bx, 3, none⟩ = false := by simp [World.frozen?, X7]
        have HC7 := Lib.hid (Cur.set hc7 (show p < bx by omega) (i := 3) (v := .int .i64 z))
        have HG7 := Lib.hid (grown_put (grown_trans HG.out hg7) (show w.heap.size ≤ bx by omega) (i := 3) (v := .int .i64 z))
        have HO8 := Lib.hid (own_kept_at HO7.out (lst.grown_set (lst.grown_refl w7 (some bx)) 3 (.int .i64 z)) (fun g' e1 e2 => by have e1 : some g = some g' := e1; injection e1 with e1; injection e2 with e2; omega))
        clear HO HC HG hc7 hg7 HO7 X7 HX6
        have HO := Lib.hid HO8.out
        have HC := Lib.hid HC7.out
        have HG := Lib.hid HG7.out
        clear HO8 HC7 HG7
        obtain ⟨t1, t2, t3⟩ := ends (k := kk) x0 x1 x2 z x4 HO.out HC.out HG.out hp
        have T1 := Lib.hid t1
        have T2 := Lib.hid t2
        have T3 := Lib.hid t3
        have s0_ := HO.out.cellAt (kk * 5) (by omega)
        obtain ⟨u0, hu0⟩ : ∃ u, (cellsI zs)[kk * 5]? = some u := ⟨_, List.getElem?_eq_getElem (by unfold cellsI; rw [List.length_map, HLZ.out]; omega)⟩
        rw [hu0] at s0_
        have r0_ := HO.out.frozenAt (kk * 5)
        have s1_ := HO.out.cellAt (kk * 5 + 1) (by omega)
        obtain ⟨u1, hu1⟩ : ∃ u, (cellsI zs)[kk * 5 + 1]? = some u := ⟨_, List.getElem?_eq_getElem (by unfold cellsI; rw [List.length_map, HLZ.out]; omega)⟩
        rw [hu1] at s1_
        have r1_ := HO.out.frozenAt (kk * 5 + 1)
        have s2_ := HO.out.cellAt (kk * 5 + 2) (by omega)
        obtain ⟨u2, hu2⟩ : ∃ u, (cellsI zs)[kk * 5 + 2]? = some u := ⟨_, List.getElem?_eq_getElem (by unfold cellsI; rw [List.length_map, HLZ.out]; omega)⟩
        rw [hu2] at s2_
        have r2_ := HO.out.frozenAt (kk * 5 + 2)
        have s3_ := HO.out.cellAt (kk * 5 + 3) (by omega)
        obtain ⟨u3, hu3⟩ : ∃ u, (cellsI zs)[kk * 5 + 3]? = some u := ⟨_, List.getElem?_eq_getElem (by unfold cellsI; rw [List.length_map, HLZ.out]; omega)⟩
        rw [hu3] at s3_
        have r3_ := HO.out.frozenAt (kk * 5 + 3)
        have s4_ := HO.out.cellAt (kk * 5 + 4) (by omega)
        obtain ⟨u4, hu4⟩ : ∃ u, (cellsI zs)[kk * 5 + 4]? = some u := ⟨_, List.getElem?_eq_getElem (by unfold cellsI; rw [List.length_map, HLZ.out]; omega)⟩
        rw [hu4] at s4_
        have r4_ := HO.out.frozenAt (kk * 5 + 4)
        clear t1 t2 t3 hu0 hu1 hu2 hu3 hu4
        go_wp2_with fail
        go_ret
        exact ⟨_, k, _, rfl, T1.out, by omega, T2.out.more (by omega), T3.out⟩
      have d3 : (i == 3) = false := by simpa using h3
      by_cases h4 : i = 4
      · subst h4
        go_wp2_with fail
        go_loopw [3] (fun v wr => ∃ (l g' c' : Nat) (ys : List Int), k ≤ l ∧ l ≤ 21 ∧ v = .slice (some ⟨g', 0, none⟩) l c' ∧ wr.ownsRow w.heap.size 72 5 (.slice (some ⟨g', 0, none⟩) l c') l (cellsI ys) ∧ Cur wr p (m + 300 + 20 * l) ∧ w.grownBy wr (some p) ∧ wr.heap[bx]? = some (.cells #[.int .i64 x0, .int .i64 x1, .int .i64 x2, .int .i64 x3, .int .i64 x4] 72 (0, 0)) ∧ g' ≠ bx) (fun v _ => 21 - lenV v)
        case atStart => exact ⟨k, g, c, zs, Nat.le_refl _, by omega, rfl, HO.out, HC.out.more (by omega), HG.out, HX6.out, hgx⟩
        case round =>
          obtain ⟨l, g', c', ys, hnl, hl21, rfl, ho, hc, hg, hx, hgb⟩ := hrel
          clear HO HC HG HX6 hgB hgx
          go_wp2_with fail
          refine (pick p _ 2 wr hc (by omega) (by omega) (by omega)).mono ?_
          rintro e w7 ⟨r, rfl, r0, r1, hc7, hg7⟩
          have ho7 := own_kept ho hg7 (fun g e => by cases e; exact hp)
          have hg8 := grown_trans hg hg7
          have hs8 := hg8.size
          have hbl := (Array.getElem?_eq_some_iff.1 hx).1
          have hx7 := (hg7.block bx hbl (fun e => hbp (by injection e))).trans hx
          have e1 : IntKind.i64.wrap (20 + r) = 20 + r := IntWalk.i64_in _ (by omega)
          clear ho hc hg hg7 hx hbl
          by_cases hlt : (l : Int) < 20 + r
          · go_wp2_with (at_builtin; refine wpList_append_own _ rfl (.tmp 91) (.tmp 95) 37 rfl w.heap.size 72 i0 (.agg #[.int .i64 0, .int .i64 0, .int .i64 0, .int .i64 0, .int .i64 0]) 5 40 Tryd.underlying37 hi hz0 hz1 hz2 rfl (by decide) _ l (cellsI ys) rfl (ho7.alloc _) ⟨w7.heap.size, 0, none⟩ 1 1 [.int .i64 86400, .int .i64 1, .int .i64 ((l : Int)), .int .i64 0, .int .i64 0] rfl rfl (cells_new _ _ #[.int .i64 86400, .int .i64 1, .int .i64 ((l : Int)), .int .i64 0, .int .i64 0]) (five_cells _ _ _ _ _) (by unfold maxLen; omega) (by omega) (by simp; omega) ?_; intro v' w9 hown' hgrow hnil)
            have hc9 := Lib.hid (cur_append hc7 ho7 hp hs8 hgrow)
            have hg9 := Lib.hid (grown_append hg8 ho7 (Nat.le_refl _) hgrow)
            have hb7 := (Array.getElem?_eq_some_iff.1 hx7).1
            have hx9 := (hgrow.block bx (by rw [World.size_alloc]; omega) (fun e => hgb (by injection e with e; exact e.symm))).trans ((Below.heap_alloc w7 _ bx hb7).trans hx7)
            have HO9 := own_grow5 hown'
            obtain ⟨g9, c9, rfl, hc9', hg9'⟩ := own_posC HO9 (Nat.succ_pos l)
            have hne9 : g9 ≠ bx := fun e => by
              rcases HO9.2 with ⟨e1, _⟩ | ⟨g3, cap, cur, e1, _, h2, h3, _, h5, _⟩
              · cases e1
              · injection e1 with e1 _ _
                injection e1 with e1
                injection e1 with e1
                rw [← e1, e, hx9] at h2
                injection h2 with h2
                injection h2 with h2
                rw [← h2] at h5
                simp at h5
                omega
            have HX9 := Lib.hid hx9
            have HO9 := Lib.hid HO9
            clear hown' hgrow hnil ho7 hc7 hg8 hs8 hx7 hx9 hb7
            go_roundw
            case rel => exact ⟨l + 1, g9, c9, _, by omega, by omega, rfl, HO9.out, hc9.out.more (by omega), hg9.out, HX9.out, hne9⟩
            case measure => simp [lenV]; omega
          · have HO := Lib.hid ho7
            have HC := Lib.hid hc7
            have HG := Lib.hid hg8
            have HLY := Lib.hid (own_len ho7)
            have hkl : kk < l := by omega
            have hkli : (kk : Int) < (l : Int) := by omega
            have c0_ : w7.cell? ⟨bx, 0, none⟩ = some (.int .i64 x0) := cell_of_row _ _ 0 _ _ (0, 0) hx7
            have c1_ : w7.cell? ⟨bx, 1, none⟩ = some (.int .i64 x1) := cell_of_row _ _ 1 _ _ (0, 0) hx7
            have c2_ : w7.cell? ⟨bx, 2, none⟩ = some (.int .i64 x2) := cell_of_row _ _ 2 _ _ (0, 0) hx7
            have c3_ : w7.cell? ⟨bx, 3, none⟩ = some (.int .i64 x3) := cell_of_row _ _ 3 _ _ (0, 0) hx7
            have c4_ : w7.cell? ⟨bx, 4, none⟩ = some (.int .i64 x4) := cell_of_row _ _ 4 _ _ (0, 0) hx7
            clear ho7 hc7 hg8 hx7 hs8
            obtain ⟨t1, t2, t3⟩ := ends (k := kk) x0 x1 x2 x3 x4 HO.out HC.out HG.out hp
            have T1 := Lib.hid t1
            have T2 := Lib.hid t2
            have T3 := Lib.hid t3
            have s0_ := HO.out.cellAt (kk * 5) (by omega)
            obtain ⟨u0, hu0⟩ : ∃ u, (cellsI ys)[kk * 5]? = some u := ⟨_, List.getElem?_eq_getElem (by unfold cellsI; rw [List.length_map, HLY.out]; omega)⟩
            rw [hu0] at s0_
            have r0_ := HO.out.frozenAt (kk * 5)
            have s1_ := HO.out.cellAt (kk * 5 + 1) (by omega)
            obtain ⟨u1, hu1⟩ : ∃ u, (cellsI ys)[kk * 5 + 1]? = some u := ⟨_, List.getElem?_eq_getElem (by unfold cellsI; rw [List.length_map, HLY.out]; omega)⟩
            rw [hu1] at s1_
            have r1_ := HO.out.frozenAt (kk * 5 + 1)
            have s2_ := HO.out.cellAt (kk * 5 + 2) (by omega)
            obtain ⟨u2, hu2⟩ : ∃ u, (cellsI ys)[kk * 5 + 2]? = some u := ⟨_, List.getElem?_eq_getElem (by unfold cellsI; rw [List.length_map, HLY.out]; omega)⟩
            rw [hu2] at s2_
            have r2_ := HO.out.frozenAt (kk * 5 + 2)
            have s3_ := HO.out.cellAt (kk * 5 + 3) (by omega)
            obtain ⟨u3, hu3⟩ : ∃ u, (cellsI ys)[kk * 5 + 3]? = some u := ⟨_, List.getElem?_eq_getElem (by unfold cellsI; rw [List.length_map, HLY.out]; omega)⟩
            rw [hu3] at s3_
            have r3_ := HO.out.frozenAt (kk * 5 + 3)
            have s4_ := HO.out.cellAt (kk * 5 + 4) (by omega)
            obtain ⟨u4, hu4⟩ : ∃ u, (cellsI ys)[kk * 5 + 4]? = some u := ⟨_, List.getElem?_eq_getElem (by unfold cellsI; rw [List.length_map, HLY.out]; omega)⟩
            rw [hu4] at s4_
            have r4_ := HO.out.frozenAt (kk * 5 + 4)
            clear t1 t2 t3 hu0 hu1 hu2 hu3 hu4
            go_wp2_with fail
            go_ret
            exact ⟨_, l, _, rfl, T1.out, by omega, T2.out.more (by omega), T3.out⟩
      have d4 : (i == 4) = false := by simpa using h4
      have c0_ : w6.cell? ⟨bx, 0, none⟩ = some (.int .i64 x0) := cell_of_row _ _ 0 _ _ (0, 0) HX6.out
      have c1_ : w6.cell? ⟨bx, 1, none⟩ = some (.int .i64 x1) := cell_of_row _ _ 1 _ _ (0, 0) HX6.out
      have c2_ : w6.cell? ⟨bx, 2, none⟩ = some (.int .i64 x2) := cell_of_row _ _ 2 _ _ (0, 0) HX6.out
      have c3_ : w6.cell? ⟨bx, 3, none⟩ = some (.int .i64 x3) := cell_of_row _ _ 3 _ _ (0, 0) HX6.out
      have c4_ : w6.cell? ⟨bx, 4, none⟩ = some (.int .i64 x4) := cell_of_row _ _ 4 _ _ (0, 0) HX6.out
      obtain ⟨t1, t2, t3⟩ := ends (k := kk) x0 x1 x2 x3 x4 HO.out HC.out HG.out hp
      have T1 := Lib.hid t1
      have T2 := Lib.hid t2
      have T3 := Lib.hid t3
      have s0_ := HO.out.cellAt (kk * 5) (by omega)
      obtain ⟨u0, hu0⟩ : ∃ u, (cellsI zs)[kk * 5]? = some u := ⟨_, List.getElem?_eq_getElem (by unfold cellsI; rw [List.length_map, HLZ.out]; omega)⟩
      rw [hu0] at s0_
      have r0_ := HO.out.frozenAt (kk * 5)
      have s1_ := HO.out.cellAt (kk * 5 + 1) (by omega)
      obtain ⟨u1, hu1⟩ : ∃ u, (cellsI zs)[kk * 5 + 1]? = some u := ⟨_, List.getElem?_eq_getElem (by unfold cellsI; rw [List.length_map, HLZ.out]; omega)⟩
      rw [hu1] at s1_
      have r1_ := HO.out.frozenAt (kk * 5 + 1)
      have s2_ := HO.out.cellAt (kk * 5 + 2) (by omega)
      obtain ⟨u2, hu2⟩ : ∃ u, (cellsI zs)[kk * 5 + 2]? = some u := ⟨_, List.getElem?_eq_getElem (by unfold cellsI; rw [List.length_map, HLZ.out]; omega)⟩
      rw [hu2] at s2_
      have r2_ := HO.out.frozenAt (kk * 5 + 2)
      have s3_ := HO.out.cellAt (kk * 5 + 3) (by omega)
      obtain ⟨u3, hu3⟩ : ∃ u, (cellsI zs)[kk * 5 + 3]? = some u := ⟨_, List.getElem?_eq_getElem (by unfold cellsI; rw [List.length_map, HLZ.out]; omega)⟩
      rw [hu3] at s3_
      have r3_ := HO.out.frozenAt (kk * 5 + 3)
      have s4_ := HO.out.cellAt (kk * 5 + 4) (by omega)
      obtain ⟨u4, hu4⟩ : ∃ u, (cellsI zs)[kk * 5 + 4]? = some u := ⟨_, List.getElem?_eq_getElem (by unfold cellsI; rw [List.length_map, HLZ.out]; omega)⟩
      rw [hu4] at s4_
      have r4_ := HO.out.frozenAt (kk * 5 + 4)
      clear t1 t2 t3 hu0 hu1 hu2 hu3 hu4
      go_wp2_with fail
      go_ret
      exact ⟨_, k, _, rfl, T1.out, by omega, T2.out.more (by omega), T3.out⟩

theorem among_old (lo hi : Int) (p m n N b : Nat) (xs : List Int) (cs : Array Value) (w w2 : World) (h2 : Cur w2 p m) (hm : m ≤ 900000) (hg : (w.alloc (.cells cs 3)).grownBy w2 (some p)) (hb : w.heap.size = b) (hp : p < w.heap.size)
    (hcs : cs.toList = xs.map (Value.int .i64)) (hl : xs.length = N) (hn : 1 ≤ n) (hnN : n ≤ N) (hN : N ≤ 60000) (hk : ∀ x ∈ xs, lo ≤ x ∧ x ≤ hi) :
    Calls Tryd.prog 75 #[.pointer (some ⟨p, 0, none⟩), .slice (some ⟨b, 0, none⟩) n N] w2 (Reads lo hi p (m + 2) w2) := by
  subst hb
  refine among lo hi p m w.heap.size 0 n N (xs.take n) w2 h2 hm hn (by omega) (by rw [List.length_take]; omega) (fun x hx => hk x (List.mem_of_mem_take hx)) (by omega) ?_
  intro j x hx
  have hx2 : xs[j]? = some x := by
    rw [List.getElem?_take] at hx
    split at hx
    · exact hx
    · cases hx
  refine hg.cell (a := ⟨w.heap.size, 0 + j, none⟩) ?_ (fun e => by injection e with e; simp at e; omega)
  rw [Nat.zero_add, cell_of_row _ _ j cs 3 (0, 0) (heap_alloc_new w _)]
  rw [← Array.getElem?_toList, hcs]
  simp [hx2]

def WinQ (p m : Nat) (w : World) (e : Ending) (w' : World) : Prop := ∃ a b, e = .returned (.tuple #[.int .i64 a, .int .i64 b]) ∧ (-1 ≤ a ∧ a ≤ 61) ∧ (-1 ≤ b ∧ b ≤ 1001) ∧ Cur w' p m ∧ w.grownBy w' (some p)
set_option maxRecDepth 100000 in
set_option maxHeartbeats 4000000 in
theorem window13 (p m : Nat) (w : World) (h : Cur w p m) (hm : m ≤ 100000) :
    Calls Tryd.prog 80 #[.pointer (some ⟨p, 0, none⟩)] w (WinQ p (m + 100) w) := by
  have C0 := Lib.hid h
  have G0 := Lib.hid (show w.grownBy w (some p) from lst.grown_refl w (some p))
  clear h
  go_enter Tryd.func80, Tryd.ntmps80
  have BWA := Lib.hid (show ∀ x ∈ ([0, 1, 2, 5, 60, -1, 61] : List Int), -1 ≤ x ∧ x ≤ 61 by decide)
  go_wp2_with fail
  refine (pick p _ 24 (w.alloc (.cells #[.int .i64 0, .int .i64 1, .int .i64 2, .int .i64 5, .int .i64 60, .int .i64 (-1), .int .i64 61] 3)) (Cur.alloc C0.out (.cells #[.int .i64 0, .int .i64 1, .int .i64 2, .int .i64 5, .int .i64 60, .int .i64 (-1), .int .i64 61] 3)) (by omega) (by omega) (by omega)).mono ?_
  rintro e w1 ⟨rA, rfl, r0A, r1A, hcA, hgA⟩
  obtain ⟨rnA, rfl⟩ := Int.eq_ofNat_of_zero_le r0A
  obtain ⟨qA, hqA⟩ : ∃ q, q = rnA / 11 := ⟨_, rfl⟩
  have q1A : (rnA : Int).tdiv 11 = (qA : Int) := by rw [hqA]; rfl
  have e1A : IntKind.i64.wrap ((rnA : Int).tdiv 11) = (qA : Int) := by rw [q1A, IntWalk.i64_in _ (by omega)]
  have e2A : IntKind.i64.wrap (5 + (qA : Int)) = ((5 + qA : Nat) : Int) := by rw [IntWalk.i64_in _ (by omega)]; omega
  have hq7A : 5 + rnA / 11 ≤ 7 := by omega
  have hq7iA : ((5 + qA : Nat) : Int) ≤ 7 := by omega
  have hq0iA : (0 : Int) ≤ ((5 + qA : Nat) : Int) := Int.natCast_nonneg _
  have HGA := Lib.hid hgA
  have HCA := Lib.hid hcA
  have HPA := Lib.hid (show p < w.heap.size from C0.out.lt)
  have GRA := Lib.hid (grown_trans G0.out (grown_trans (grown_alloc (.cells #[.int .i64 0, .int .i64 1, .int .i64 2, .int .i64 5, .int .i64 60, .int .i64 (-1), .int .i64 61] 3) (some p)) hgA))
  clear hcA hgA hqA q1A G0
  go_wp2_with fail
  refine (among_old (-1) 61 p _ (5 + rnA / 11) 7 _ [0, 1, 2, 5, 60, -1, 61] _ w w1 HCA.out (by omega) HGA.out rfl HPA.out rfl rfl (by omega) hq7A (by omega) BWA.out).mono ?_
  rintro e w2 ⟨a, rfl, a0, a1, hcmA, hgmA⟩
  have CMA := Lib.hid hcmA
  have GMA := Lib.hid (grown_trans GRA.out hgmA)
  clear hcmA hgmA HCA HGA GRA BWA HPA C0
  have C2 := CMA
  have G2 := GMA
  clear CMA GMA
  have BWB := Lib.hid (show ∀ x ∈ ([0, 1, 5, 50, 1000, -1, 1001] : List Int), -1 ≤ x ∧ x ≤ 1001 by decide)
  go_wp2_with fail
  refine (pick p _ 24 (w2.alloc (.cells #[.int .i64 0, .int .i64 1, .int .i64 5, .int .i64 50, .int .i64 1000, .int .i64 (-1), .int .i64 1001] 3)) (Cur.alloc C2.out (.cells #[.int .i64 0, .int .i64 1, .int .i64 5, .int .i64 50, .int .i64 1000, .int .i64 (-1), .int .i64 1001] 3)) (by omega) (by omega) (by omega)).mono ?_
  rintro e w3 ⟨rB, rfl, r0B, r1B, hcB, hgB⟩
  obtain ⟨rnB, rfl⟩ := Int.eq_ofNat_of_zero_le r0B
  obtain ⟨qB, hqB⟩ : ∃ q, q = rnB / 11 := ⟨_, rfl⟩
  have q1B : (rnB : Int).tdiv 11 = (qB : Int) := by rw [hqB]; rfl
  have e1B : IntKind.i64.wrap ((rnB : Int).tdiv 11) = (qB : Int) := by rw [q1B, IntWalk.i64_in _ (by omega)]
  have e2B : IntKind.i64.wrap (5 + (qB : Int)) = ((5 + qB : Nat) : Int) := by rw [IntWalk.i64_in _ (by omega)]; omega
  have hq7B : 5 + rnB / 11 ≤ 7 := by omega
  have hq7iB : ((5 + qB : Nat) : Int) ≤ 7 := by omega
  have hq0iB : (0 : Int) ≤ ((5 + qB : Nat) : Int) := Int.natCast_nonneg _
  have HGB := Lib.hid hgB
  have HCB := Lib.hid hcB
  have HPB := Lib.hid (show p < w2.heap.size from C2.out.lt)
  have GRB := Lib.hid (grown_trans G2.out (grown_trans (grown_alloc (.cells #[.int .i64 0, .int .i64 1, .int .i64 5, .int .i64 50, .int .i64 1000, .int .i64 (-1), .int .i64 1001] 3) (some p)) hgB))
  clear hcB hgB hqB q1B G2
  go_wp2_with fail
  refine (among_old (-1) 1001 p _ (5 + rnB / 11) 7 _ [0, 1, 5, 50, 1000, -1, 1001] _ w2 w3 HCB.out (by omega) HGB.out rfl HPB.out rfl rfl (by omega) hq7B (by omega) BWB.out).mono ?_
  rintro e w4 ⟨b, rfl, b0, b1, hcmB, hgmB⟩
  have CMB := Lib.hid hcmB
  have GMB := Lib.hid (grown_trans GRB.out hgmB)
  clear hcmB hgmB HCB HGB GRB BWB HPB C2
  go_wp2_with fail
  go_ret2
  exact ⟨a, b, rfl, ⟨a0, a1⟩, ⟨b0, b1⟩, CMB.out.more (by omega), GMB.out⟩

theorem results_tmp4 {fn : Func} {t u v x : Tmp} (h : fn.results = #[.tmp t, .tmp u, .tmp v, .tmp x]) (tmps : Array Value) (P : Program) (w : World) :
    (results fn tmps).run P w = .ok (.tuple #[tmps.getD t undef, tmps.getD u undef, tmps.getD v undef, tmps.getD x undef]) w := by
  simp [results, h]
def GQ (w : World) (e : Ending) (w' : World) : Prop := ∃ v k zs a b, e = .returned (.tuple #[v, .int .i64 a, .int .i64 b]) ∧ w'.ownsRow w.heap.size 72 5 v k (cellsI zs) ∧ k ≤ 21 ∧ (-1 ≤ a ∧ a ≤ 61) ∧ (-1 ≤ b ∧ b ≤ 1001) ∧ Below w.heap.size w w'
def LQ (w : World) (e : Ending) (w' : World) : Prop := ∃ v k zs, e = .returned v ∧ w'.ownsRow w.heap.size 72 5 v k (cellsI zs) ∧ k ≤ 21 ∧ Below w.heap.size w w'
def SQ (w : World) (e : Ending) (w' : World) : Prop := ∃ v k zs a b g, e = .returned (.tuple #[v, .int .i64 a, .int .i64 b, .int .i64 g]) ∧ w'.ownsRow w.heap.size 72 5 v k (cellsI zs) ∧ k ≤ 21 ∧ (-1 ≤ a ∧ a ≤ 61) ∧ (-1 ≤ b ∧ b ≤ 1001) ∧ Below w.heap.size w w'
set_option maxRecDepth 100000 in
set_option maxHeartbeats 4000000 in
theorem validSightings (A : Option Addr) (n c : Nat) (w : World) (hn : n ≤ 65536) (h : Bytes w w.heap.size A n) :
    Calls Tryd.prog 45 #[.slice A n c] w (LQ w) := by
  have HC0 := Lib.hid (new_cur c (by omega) h)
  have B0 := Lib.hid (newS 64 #[.slice A n c, .int .i64 0, .int .u64 0] w)
  have HZ1 := Lib.hid (show w.heap.size < (w.alloc (.cells #[.slice A n c, .int .i64 0, .int .u64 0] 64)).heap.size by rw [World.size_alloc]; omega)
  clear h
  go_enter Tryd.func45, Tryd.ntmps45
  go_upto_region 2 with fail
  generalize w.alloc (.cells #[.slice A n c, .int .i64 0, .int .u64 0] 64) = W0 at *
  have HZ0 := Lib.hid (show w.heap.size ≤ W0.heap.size by have := HZ1.out; omega)
  go_wp2_with fail
  refine (sightings _ 0 W0 HC0.out (by omega)).mono ?_
  rintro e w1 ⟨v, k, zs, rfl, ho, hk, hc1, hg1⟩
  obtain ⟨A1, c1, rfl⟩ := own_sliceZ ho
  have B1 := Lib.hid (below_of_grown B0.out.1 hg1)
  have HC1 := Lib.hid hc1
  have LO1 := Lib.hid ho
  clear ho hc1 hg1 B0 HC0
  go_wp2_with fail
  go_ret
  exact ⟨_, k, zs, rfl, own_.own_base LO1.out HZ0.out, hk, B1.out⟩
set_option maxRecDepth 100000 in
set_option maxHeartbeats 4000000 in
theorem groupSightings (A : Option Addr) (n c : Nat) (w : World) (hn : n ≤ 65536) (h : Bytes w w.heap.size A n) :
    Calls Tryd.prog 52 #[.slice A n c] w (GQ w) := by
  have HC0 := Lib.hid (new_cur c (by omega) h)
  have B0 := Lib.hid (newS 64 #[.slice A n c, .int .i64 0, .int .u64 0] w)
  have HZ1 := Lib.hid (show w.heap.size < (w.alloc (.cells #[.slice A n c, .int .i64 0, .int .u64 0] 64)).heap.size by rw [World.size_alloc]; omega)
  clear h
  go_enter Tryd.func52, Tryd.ntmps52
  go_upto_region 2 with fail
  generalize w.alloc (.cells #[.slice A n c, .int .i64 0, .int .u64 0] 64) = W0 at *
  have HZ0 := Lib.hid (show w.heap.size ≤ W0.heap.size by have := HZ1.out; omega)
  go_wp2_with fail
  refine (sightings _ 0 W0 HC0.out (by omega)).mono ?_
  rintro e w1 ⟨v, k, zs, rfl, ho, hk, hc1, hg1⟩
  obtain ⟨A1, c1, rfl⟩ := own_sliceZ ho
  have B1 := Lib.hid (below_of_grown B0.out.1 hg1)
  have HC1 := Lib.hid hc1
  have LO1 := Lib.hid ho
  clear ho hc1 hg1 B0 HC0
  go_wp2_with fail
  refine (window13 _ _ w1 HC1.out (by omega)).mono ?_
  rintro e w2 ⟨a, b, rfl, ha, hb, hc2, hg2⟩
  have B2 := Lib.hid (below_of_grown B1.out hg2)
  have HC2 := Lib.hid hc2
  have LO2 := Lib.hid (own_kept LO1.out hg2 (fun g e => by cases e; exact HZ1.out))
  clear hc2 hg2 B1 LO1 HC1
  go_wp2_with fail
  go_ret3
  exact ⟨_, k, zs, a, b, rfl, own_.own_base LO2.out HZ0.out, hk, ha, hb, B2.out⟩
theorem siteCounts (A : Option Addr) (n c : Nat) (w : World) (hn : n ≤ 65536) (h : Bytes w w.heap.size A n) :
    Calls Tryd.prog 15 #[.slice A n c] w (LQ w) := by
  have D := Lib.hid (validSightings A n c w hn h)
  clear h
  go_enter Tryd.func15, Tryd.ntmps15
  go_wp2_with fail
  refine D.out.mono ?_
  rintro e w1 ⟨v, k, zs, rfl, h1, h2, h3⟩
  go_wp2_with fail
  go_ret
  exact ⟨v, k, zs, rfl, h1, h2, h3⟩
theorem lonelySightings (A : Option Addr) (n c : Nat) (w : World) (hn : n ≤ 65536) (h : Bytes w w.heap.size A n) :
    Calls Tryd.prog 21 #[.slice A n c] w (GQ w) := by
  have D := Lib.hid (groupSightings A n c w hn h)
  clear h
  go_enter Tryd.func21, Tryd.ntmps21
  go_wp2_with fail
  refine D.out.mono ?_
  rintro e w1 ⟨v, k, zs, a, b, rfl, h1, h2, h3, h4, h5⟩
  go_wp2_with fail
  go_ret3
  exact ⟨v, k, zs, a, b, rfl, h1, h2, h3, h4, h5⟩
end Go.Proofs.YtdjcbfeilkepmaaDoor.draws13
