/- slices.Grow, slices.Concat (of two slices) and impl's without at ints. -/
import Derived.Test.YtpbopiecfnedgabSitI
import Derived.Test.YtpbopiecfnedgabSitV
import Derived.Test.YtpbopiecfnedgabLoc
import Derived.Shelf.Spec.SlicesGrow
namespace Go.Proofs.Ytpbopiecfnedgab.sith
open Go.RowKit Go.Proofs.Ytpbopiecfnedgab.ints Go.Proofs.Ytpbopiecfnedgab.lst Go.Proofs.Ytpbopiecfnedgab.sit Go.Proofs.Ytpbopiecfnedgab.in_ Go.Proofs.Ytpbopiecfnedgab.ats Go.Proofs.Ytpbopiecfnedgab.sits Go.Proofs.Ytpbopiecfnedgab.siti Go.Proofs.Ytpbopiecfnedgab.sitv Go.Proofs.Ytpbopiecfnedgab.loc

def ren : Go.Shelf.Ren := ⟨fun | 4 => 114 | n => n, fun | 22 => 23 | 25 => 3 | 3 => 3 | 4 => 4 | 9 => 9 | 20 => 20 | n => n, fun | n => n⟩
theorem grows : Go.Proofs.Lays8.n4 Try.prog ren := {
  mixed := by kernel_rfl
  f4 := ⟨ "slices.Grow[[]int,int]", by decide, Try.func114.trans (congrArg some (by kernel_rfl))⟩
  t0 := Try.underlying0
  a0 := Try.isAgg0
  z0 := Try.sizeOf0
  v0 := Try.zeroValue0
  t3 := Try.underlying3
  a3 := Try.isAgg3
  z3 := Try.sizeOf3
  v3 := Try.zeroValue3
  t4 := Try.underlying4
  a4 := Try.isAgg4
  z4 := Try.sizeOf4
  v4 := Try.zeroValue4
  t9 := Try.underlying9
  a9 := Try.isAgg9
  z9 := Try.sizeOf9
  v9 := Try.zeroValue9
  t20 := Try.underlying20
  a20 := Try.isAgg20
  z20 := Try.sizeOf20
  v20 := Try.zeroValue20
  t22 := Try.underlying23
  a22 := Try.isAgg23
  z22 := Try.sizeOf23
  v22 := Try.zeroValue23 }

theorem growS (n : Nat) (w : World) (h0 : 0 < n) (h1 : n ≤ 1048576) :
    Calls Try.prog 114 #[.slice none 0 0, .int .i64 (n : Int)] w fun e w' => ∃ v, e = .returned v ∧ w'.ownsRow w.heap.size 3 1 v 0 [] ∧ Below w.heap.size w w' := by
  obtain ⟨i0, hi, hz0, hz1, hz2⟩ := info_parts infoI
  refine (Any8.slices_Grow_grow grows i0 _ hi hz0 (by omega) none 0 0 n [] w (Nat.le_refl _) (by omega) (by rw [hz2]; omega) (by omega) (by simp) (fun _ => rfl) (fun a e => by cases e)).mono ?_
  rintro e w' ⟨rfl, rfl⟩
  refine ⟨_, rfl, ⟨rfl, .inr ⟨w.heap.size, _, _, rfl, Nat.le_refl _, heap_alloc_new w.drew _, Nat.zero_le _, grownCap_le_maxLen w _ _ _ (by unfold maxLen; omega), ?_, rfl⟩⟩, (Below.refl _ _).drew.alloc (Nat.le_refl _) _⟩
  have hge := grownCap_ge w (0 + n) 0 (ren.t 25)
  show (_ ++ _ ++ _ : Array Value).size = grownCap w (0 + n) 0 (ren.t 25) * 1
  generalize grownCap w (0 + n) 0 (ren.t 25) = G at *
  simp [Builtin.zeroCells, Value.cells]
  omega

set_option maxRecDepth 100000 in
set_option maxHeartbeats 2000000 in
theorem concat2 (xs ys : List Int) (a1 a2 : Addr) (n1 c1 n2 c2 g : Nat) (w : World) (h0 : 0 < n1 + n2) (h1 : n1 + n2 ≤ 1048576) (hl1 : xs.length = n1) (hl2 : ys.length = n2) (hg : g < w.heap.size)
    (q0 : w.cell? ⟨g, 0, none⟩ = some (.slice (some a1) n1 c1)) (q1 : w.cell? ⟨g, 1, none⟩ = some (.slice (some a2) n2 c2))
    (hx : ∀ W, Below w.heap.size w W → ∀ j u, (cellsI xs)[j]? = some u → W.cell? (a1.add j) = some u) (hy : ∀ W, Below w.heap.size w W → ∀ j u, (cellsI ys)[j]? = some u → W.cell? (a2.add j) = some u) :
    Calls Try.prog 109 #[.slice (some ⟨g, 0, none⟩) 2 2] w fun e w' => ∃ v, e = .returned v ∧ w'.ownsRow w.heap.size 3 1 v (n1 + n2) (cellsI xs ++ cellsI ys) ∧ Below w.heap.size w w' := by
  obtain ⟨i0, hi, hz0, hz1, hz2⟩ := info_parts infoI
  have L1 := Lib.hid (show (cellsI xs).length = n1 * 1 by unfold cellsI; rw [List.length_map, hl1, Nat.mul_one])
  have L2 := Lib.hid (show (cellsI ys).length = n2 * 1 by unfold cellsI; rw [List.length_map, hl2, Nat.mul_one])
  have HX := Lib.hid hx
  have HY := Lib.hid hy
  have Q0 := Lib.hid q0
  have Q1 := Lib.hid q1
  clear hl1 hl2 hx hy
  go_enter Try.func109, Try.ntmps109
  go_wp2_with fail
  go_loop [3, 11] (fun z i => (i = .int .i64 0 ∧ z = .int .i64 0) ∨ (i = .int .i64 1 ∧ z = .int .i64 (n1 : Int)) ∨ (i = .int .i64 2 ∧ z = .int .i64 ((n1 + n2 : Nat) : Int))) (fun _ i => 2 - (intOf i).toNat)
  case atStart => exact Or.inl ⟨rfl, rfl⟩
  case round =>
    rcases hrel with ⟨rfl, rfl⟩ | ⟨rfl, rfl⟩ | ⟨rfl, rfl⟩
    · have z0 : ¬ (n1 : Int) < 0 := by omega
      go_wp2_with fail
      go_round
      case rel => simp
      case measure => simp [intOf]
    · have z0 : ¬ (n1 : Int) + (n2 : Int) < 0 := by omega
      have z1 : (n1 : Int) + (n2 : Int) ≤ 1048576 := by omega
      go_wp2_with fail
      go_round
      case rel => simp
      case measure => simp [intOf]
    · have G := Lib.hid (growS (n1 + n2) w h0 h1)
      clear q0 q1
      generalize ((n1 + n2 : Nat) : Int) = m at *
      go_wp2_with fail
      refine G.out.mono ?_
      rintro e w1 ⟨v1, rfl, ho1, hb1⟩
      have O1 := Lib.hid ho1
      have B1 := Lib.hid hb1
      clear ho1 hb1 G
      go_wp2_with fail
      go_loopw [6, 27] (fun v i wr => Below w.heap.size w wr ∧ ((i = .int .i64 0 ∧ wr.ownsRow w.heap.size 3 1 v 0 []) ∨ (i = .int .i64 1 ∧ wr.ownsRow w.heap.size 3 1 v n1 (cellsI xs)) ∨ (i = .int .i64 2 ∧ wr.ownsRow w.heap.size 3 1 v (n1 + n2) (cellsI xs ++ cellsI ys)))) (fun _ i _ => 2 - (intOf i).toNat)
      case atStart => exact ⟨B1.out, Or.inl ⟨rfl, O1.out⟩⟩
      case round =>
        obtain ⟨hb, hrel⟩ := hrel
        clear O1 B1
        have p0 := (hb.cell (p := ⟨g, 0, none⟩) hg).trans Q0.out
        have p1 := (hb.cell (p := ⟨g, 1, none⟩) hg).trans Q1.out
        have hsz := hb.size
        rcases hrel with ⟨rfl, hown⟩ | ⟨rfl, hown⟩ | ⟨rfl, hown⟩
        · go_wp2_with (at_builtin; refine wpList_append_own _ rfl (.tmp 31) (.tmp 32) 23 rfl w.heap.size 3 i0 (.int .i64 0) 1 8 Try.underlying23 hi hz0 hz1 hz2 rfl (by decide) _ 0 [] rfl hown a1 n1 c1 (cellsI xs) rfl L1.out (HX.out _ hb) (ints_one _) (by unfold maxLen; omega) (by omega) hsz ?_; intro v' w3 hown' hgrow hnil)
          have OX := Lib.hid (show w3.ownsRow w.heap.size 3 1 v' n1 (cellsI xs) by rw [Nat.zero_add, List.nil_append] at hown'; exact hown')
          have BX := Lib.hid (hb.grown hgrow hsz (own_.row_ge hown))
          clear hown' hgrow hnil hown hb p0 p1
          go_roundw
          case rel => exact ⟨BX.out, .inr (.inl ⟨by first | rfl | go_num, OX.out⟩)⟩
          case measure => simp [intOf]
        · go_wp2_with (at_builtin; refine wpList_append_own _ rfl (.tmp 31) (.tmp 32) 23 rfl w.heap.size 3 i0 (.int .i64 0) 1 8 Try.underlying23 hi hz0 hz1 hz2 rfl (by decide) _ n1 (cellsI xs) rfl hown a2 n2 c2 (cellsI ys) rfl L2.out (HY.out _ hb) (ints_one _) (by unfold maxLen; omega) (by omega) hsz ?_; intro v' w3 hown' hgrow hnil)
          have OX := Lib.hid hown'
          have BX := Lib.hid (hb.grown hgrow hsz (own_.row_ge hown))
          clear hown' hgrow hnil hown hb p0 p1
          go_roundw
          case rel => exact ⟨BX.out, .inr (.inr ⟨by first | rfl | go_num, OX.out⟩)⟩
          case measure => simp [intOf]
        · have OX := Lib.hid hown
          have BX := Lib.hid hb
          clear hown hb p0 p1
          go_wp2_with fail
          go_ret
          exact ⟨_, rfl, OX.out, BX.out⟩

theorem srcI_take {w : World} {b o n k : Nat} {zs : List Int} (h : RdI w w.heap.size (some ⟨b, o, none⟩) n zs) (hn : 0 < n) :
    ∀ W, Below w.heap.size w W → ∀ j u, (cellsI (zs.take k))[j]? = some u → W.cell? ((⟨b, o, none⟩ : Addr).add j) = some u := by
  intro W hb j u hu
  obtain ⟨x, hx, rfl⟩ := cellsI_at hu
  obtain ⟨b', o', e, hlt, hc⟩ := h.2 hn
  obtain ⟨rfl, rfl⟩ : b = b' ∧ o = o' := by injection e with e; injection e with e1 e2; exact ⟨e1, e2⟩
  have hj := (List.getElem?_eq_some_iff.1 hx).1
  rw [List.length_take] at hj
  rw [List.getElem?_take, if_pos (by omega)] at hx
  rw [Addr.add_lit, hb.cell (p := ⟨b, o + j, none⟩) hlt]
  exact hc j x hx
theorem srcI_drop {w : World} {b o n k : Nat} {zs : List Int} (h : RdI w w.heap.size (some ⟨b, o, none⟩) n zs) (hn : 0 < n) :
    ∀ W, Below w.heap.size w W → ∀ j u, (cellsI (zs.drop k))[j]? = some u → W.cell? ((⟨b, o + k, none⟩ : Addr).add j) = some u := by
  intro W hb j u hu
  obtain ⟨x, hx, rfl⟩ := cellsI_at hu
  obtain ⟨b', o', e, hlt, hc⟩ := h.2 hn
  obtain ⟨rfl, rfl⟩ : b = b' ∧ o = o' := by injection e with e; injection e with e1 e2; exact ⟨e1, e2⟩
  rw [List.getElem?_drop] at hx
  rw [Addr.add_lit, hb.cell (p := ⟨b, o + k + j, none⟩) hlt, Nat.add_assoc]
  exact hc _ x hx
theorem ownI_two {w : World} {B e n k : Nat} {v : Value} {zs : List Int} (h : w.ownsRow B e 1 v (k + (n - (k + 1))) (cellsI (zs.take k) ++ cellsI (zs.drop (k + 1)))) (hk : k < n) : w.ownsRow B e 1 v (n - 1) (cellsI (drI zs k)) := by
  unfold cellsI at h ⊢
  rw [← List.map_append, show k + (n - (k + 1)) = n - 1 by omega] at h
  exact h
set_option maxRecDepth 100000 in
set_option maxHeartbeats 4000000 in
theorem without (zs : List Int) (k : Nat) (b o n c : Nat) (w : World) (hk : k < n) (hn2 : 2 ≤ n) (hn5 : n ≤ 1000000) (hc : n ≤ c) (h1 : RdI w w.heap.size (some ⟨b, o, none⟩) n zs) :
    Calls Try.prog 82 #[.slice (some ⟨b, o, none⟩) n c, .int .i64 (k : Int)] w fun e w' => ∃ v, e = .returned v ∧ w'.ownsRow w.heap.size 3 1 v (n - 1) (cellsI (drI zs k)) ∧ Below w.heap.size w w' := by
  have HL := Lib.hid h1.1
  obtain ⟨b', o', eA, hbl, -⟩ := h1.2 (by omega)
  obtain ⟨rfl, rfl⟩ : b = b' ∧ o = o' := by injection eA with e; injection e with e1 e2; exact ⟨e1, e2⟩
  have HR := Lib.hid h1
  clear h1 eA
  obtain ⟨p, hp⟩ : ∃ p : Nat, p = k + 1 := ⟨_, rfl⟩
  have e2 : IntKind.i64.wrap ((k : Int) + 1) = (p : Int) := by rw [IntWalk.i64_in _ (by omega)]; omega
  have HP := Lib.hid hp
  have k0 : (0 : Int) ≤ (k : Int) := Int.natCast_nonneg _
  have k1 : (k : Int) ≤ (c : Int) := by omega
  have k2 : (p : Int) ≤ (n : Int) := by omega
  have k3 : (n : Int) ≤ (c : Int) := by omega
  have k4 : (0 : Int) ≤ (p : Int) := by omega
  have k5 : (p : Int) ≤ (c : Int) := by omega
  have kp : (k : Int) ≤ (p : Int) := by omega
  have hkn : 0 < k + (n - p) := by omega
  have hkn2 : k + (n - p) ≤ 1048576 := by omega
  have LT := Lib.hid (show (zs.take k).length = k by rw [List.length_take, HL.out]; omega)
  have LD := Lib.hid (show (zs.drop p).length = (n - p) by rw [List.length_drop, HL.out])
  have hcc : c = p ∨ ¬ c = p := by omega
  clear hp
  rcases hcc with hck | hck
  · obtain rfl : p = c := hck.symm
    have HNP := Lib.hid (show n ≤ k + 1 by have := HP.out; omega)
    have hk1 : 0 < k + 0 := by have := HP.out; omega
    clear hck
    go_enter Try.func82, Try.ntmps82
    go_upto_region 1 with fail
    have A0 := Lib.hid (newS 23 #[.slice (some ⟨b, o, none⟩) k p, .slice (some ⟨b, o, none⟩) 0 0] w)
    have CC := Lib.hid (fun (W : World) (hA : AtS 23 #[.slice (some ⟨b, o, none⟩) k p, .slice (some ⟨b, o, none⟩) 0 0] w W w.heap.size) => concat2 (zs.take k) [] ⟨b, o, none⟩ ⟨b, o, none⟩ k p 0 0 w.heap.size W hk1 (by omega) LT.out rfl hA.2.2.1 (hA.cell 0) (hA.cell 1) (fun W' hW' => srcI_take (k := k) HR.out (by omega) W' (hA.1.trans (hW'.mono hA.1.size))) (fun W' hW' j u hu => by simp [cellsI] at hu))
    go_region_held3 (fun w' => Below w.heap.size w w') (first
      | exact (Below.refl _ _).drew
      | assumption
      | exact ((Below.refl _ _).alloc (Nat.le_refl _) _).drew
      | exact Below.alloc (by assumption) (Below.size (by assumption)) _) (first
      | (go_at_call 109; (with_reducible refine (CC.out _ (by first | exact A0.out.drew | exact A0.out)).mono ?_); rintro e wx ⟨v, rfl, ho, hb⟩
         have hbl2 : Below w.heap.size w wx := A0.out.1.drew.trans (hb.mono A0.out.1.size)
         have hox := own_.own_base ho A0.out.1.size
         clear ho hb))
    all_goals (
      have OX := Lib.hid (ownI_two (n := n) (k := k) (by rw [show cellsI (zs.drop (k + 1)) = [] by unfold cellsI; rw [List.drop_eq_nil_of_le (by rw [HL.out]; have := HNP.out; omega)]; rfl]; rw [show k + (n - (k + 1)) = k + 0 by have := HNP.out; omega]; exact hox) hk)
      have BY := Lib.hid hbl2
      clear hox hbl2
      go_wp2_with fail
      go_ret
      exact ⟨_, rfl, OX.out, BY.out⟩)
  · go_enter Try.func82, Try.ntmps82
    go_upto_region 1 with fail
    have A0 := Lib.hid (newS 23 #[.slice (some ⟨b, o, none⟩) k c, .slice (some ⟨b, o + p, none⟩) (n - p) (c - p)] w)
    have CC := Lib.hid (fun (W : World) (hA : AtS 23 #[.slice (some ⟨b, o, none⟩) k c, .slice (some ⟨b, o + p, none⟩) (n - p) (c - p)] w W w.heap.size) => concat2 (zs.take k) (zs.drop p) ⟨b, o, none⟩ ⟨b, o + p, none⟩ k c (n - p) (c - p) w.heap.size W hkn hkn2 LT.out LD.out hA.2.2.1 (hA.cell 0) (hA.cell 1) (fun W' hW' => srcI_take (k := k) HR.out (by omega) W' (hA.1.trans (hW'.mono hA.1.size))) (fun W' hW' => srcI_drop (k := p) HR.out (by omega) W' (hA.1.trans (hW'.mono hA.1.size))))
    go_region_held3 (fun w' => Below w.heap.size w w') (first
      | exact (Below.refl _ _).drew
      | assumption
      | exact ((Below.refl _ _).alloc (Nat.le_refl _) _).drew
      | exact Below.alloc (by assumption) (Below.size (by assumption)) _) (first
      | (go_at_call 109; (with_reducible refine (CC.out _ (by first | exact A0.out.drew | exact A0.out)).mono ?_); rintro e wx ⟨v, rfl, ho, hb⟩
         have hbl2 : Below w.heap.size w wx := A0.out.1.drew.trans (hb.mono A0.out.1.size)
         have hox := own_.own_base ho A0.out.1.size
         clear ho hb))
    all_goals (
      rw [HP.out] at hox
      have OX := Lib.hid (ownI_two hox hk)
      have BY := Lib.hid hbl2
      clear hox hbl2
      go_wp2_with fail
      go_ret
      exact ⟨_, rfl, OX.out, BY.out⟩)
end Go.Proofs.Ytpbopiecfnedgab.sith
