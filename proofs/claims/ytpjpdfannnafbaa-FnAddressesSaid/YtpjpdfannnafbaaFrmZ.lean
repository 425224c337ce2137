/- Slices of structs of ints (here []Frame): what it is to read as a flat list of ints, and the laws' own helpers szFrameS, toFrameS, eqFrameS, markFrameS. -/
import Derived.Test.YtpjpdfannnafbaaInts
import Derived.Test.YtpjpdfannnafbaaFrmL
import Derived.Laws.MakeOwn
import Derived.Lib.QuietBelow
namespace Go.Proofs.Ytpjpdfannnafbaa.frmz
open Go.RowKit Go.Proofs.Ytpjpdfannnafbaa.ints

/-- The slice (A, n) of structs of s ints reads as the ints zs; it lies below block B. -/
def RdZ (s : Nat) (w : World) (B : Nat) (A : Option Addr) (n : Nat) (zs : List Int) : Prop :=
  zs.length = n * s ∧ (0 < n → ∃ b o, A = some ⟨b, o, none⟩ ∧ b < B ∧ ∀ j x, zs[j]? = some x → w.cell? ⟨b, o + j, none⟩ = some (.int .i64 x))
theorem RdZ.below {s : Nat} {w w' : World} {B B' n : Nat} {A : Option Addr} {zs : List Int} (h : RdZ s w B A n zs) (hb : Below B' w w') (hB : B ≤ B') : RdZ s w' B A n zs :=
  ⟨h.1, fun hn => by
    obtain ⟨b, o, e, hlt, hc⟩ := h.2 hn
    exact ⟨b, o, e, hlt, fun j x hx => (hb.cell (p := ⟨b, o + j, none⟩) (by exact Nat.lt_of_lt_of_le hlt hB)).trans (hc j x hx)⟩⟩
theorem RdZ.next {s : Nat} {w w' : World} {n : Nat} {A : Option Addr} {zs : List Int} (h : RdZ s w w.heap.size A n zs) (hb : Below w.heap.size w w') : RdZ s w' w'.heap.size A n zs :=
  ⟨h.1, fun hn => by
    obtain ⟨b, o, e, hlt, hc⟩ := (h.below hb (Nat.le_refl _)).2 hn
    exact ⟨b, o, e, Nat.lt_of_lt_of_le hlt hb.size, hc⟩⟩
theorem RdZ.of_own {s : Nat} {w : World} {B e c n : Nat} {A : Option Addr} {zs : List Int} (h : w.ownsRow B e s (.slice A n c) n (cellsI zs)) (hz : zs.length = n * s) : RdZ s w w.heap.size A n zs := by
  refine ⟨hz, fun h0 => ?_⟩
  rcases h.2 with ⟨_, h1⟩ | ⟨g, cap, cur, hv, _, hh, _⟩
  · omega
  · injection hv with hA
    subst hA
    refine ⟨g, 0, rfl, ?_, fun j x hx => ?_⟩
    · rcases Nat.lt_or_ge g w.heap.size with h2 | h2
      · exact h2
      · rw [Array.getElem?_eq_none h2] at hh; cases hh
    · have := h.cells (g := g) rfl j (.int .i64 x) (by unfold cellsI; simp [hx])
      rwa [Addr.add_lit] at this
/-- Field j of element k. -/
def fld (s : Nat) (zs : List Int) (k j : Nat) : Int := zs.getD (k * s + j) 0
theorem RdZ.at_ {s : Nat} {w : World} {B n k : Nat} {A : Option Addr} {zs : List Int} (h : RdZ s w B A n zs) (hk : k < n) :
    ∃ b o, A = some ⟨b, o, none⟩ ∧ b < B ∧ ∀ j, j < s → w.cell? ⟨b, o + (k * s + j), none⟩ = some (.int .i64 (fld s zs k j)) := by
  obtain ⟨b, o, e, hb, hc⟩ := h.2 (by omega)
  refine ⟨b, o, e, hb, fun j hj => ?_⟩
  have hl : k * s + j < zs.length := by
    rw [h.1]
    have : (k + 1) * s ≤ n * s := Nat.mul_le_mul_right s hk
    rw [Nat.add_mul, Nat.one_mul] at this
    omega
  refine hc _ _ ?_
  unfold fld
  rw [List.getD_eq_getElem?_getD, List.getElem?_eq_getElem hl]
  rfl

theorem sz (A : Option Addr) (n c : Nat) (w : World) (hn : n ≤ maxLen) :
    Calls Try.prog 32 #[.slice A n c, .int .i64 1048576] w fun e w' => e = .returned (.int .i64 (if n ≤ 1048576 then 1048576 - (n : Int) else -1)) ∧ w = w' := by
  unfold maxLen at hn
  by_cases h : n ≤ 1048576
  · rw [if_pos h]
    have hn2 : (n : Int) ≤ 1048576 := by omega
    have d : decide ((1048576 : Int) - (n : Int) < 0) = false := decide_eq_false (by omega)
    go_enter Try.func32, Try.ntmps32
    go_wp2_with fail
    go_ret
    exact ⟨rfl, rfl⟩
  · rw [if_neg h]
    have hn2 : ¬ (n : Int) ≤ 1048576 := by omega
    have d : decide ((1048576 : Int) - (n : Int) < 0) = true := decide_eq_true (by omega)
    go_enter Try.func32, Try.ntmps32
    go_wp2_with fail
    go_ret
    exact ⟨rfl, rfl⟩

theorem infoF : (Try.prog.info? 25).map (fun i => (i.zero, i.size, i.bytes)) = some (some (.agg #[.int .i64 0, .int .i64 0, .int .i64 0]), 3, 24) := by kernel_rfl
theorem made3 (n : Nat) : (madeCells (Value.cells (.agg #[.int .i64 0, .int .i64 0, .int .i64 0])) (n * 3)).toList = List.replicate (n * 3) (.int .i64 0) := by
  refine List.ext_getElem (by simp [madeCells]) fun i h1 h2 => ?_
  simp [madeCells] at h1 ⊢
  have : i % 3 = 0 ∨ i % 3 = 1 ∨ i % 3 = 2 := by omega
  simp only [Value.cells]
  rcases this with h | h | h <;> simp [h]
/-- A row whose first m cells are filled. -/
def filled (zs : List Int) (m t : Nat) : List Value := cellsI (zs.take m) ++ List.replicate (t - m) (.int .i64 0)
theorem filled_set {zs : List Int} {m t : Nat} (h : m < zs.length) (hm : m < t) : (filled zs m t).set m (.int .i64 (zs.getD m 0)) = filled zs (m + 1) t := by
  unfold filled cellsI
  have h1 : ((zs.take m).map (Value.int .i64)).length = m := by simp; omega
  rw [List.set_append, if_neg (by omega), h1, Nat.sub_self, List.take_succ_eq_append_getElem h]
  obtain ⟨r, hr⟩ : ∃ r, t - m = r + 1 := ⟨t - m - 1, by omega⟩
  rw [hr, List.replicate_succ, List.set_cons_zero, show t - (m + 1) = r by omega, List.getD_eq_getElem?_getD, List.getElem?_eq_getElem h, List.map_append, List.map_cons, List.map_nil, List.append_assoc]
  rfl
theorem filled_at {zs : List Int} {m t j : Nat} (hl : zs.length = t) (hj : j < t) (hm : m ≤ t) : ∃ u, (filled zs m t)[j]? = some u :=
  ⟨_, List.getElem?_eq_getElem (by unfold filled cellsI; simp; omega)⟩
theorem filled_all {zs : List Int} {t : Nat} (hl : zs.length = t) : filled zs t t = cellsI zs := by
  unfold filled; rw [List.take_of_length_le (by omega)]; simp

set_option maxRecDepth 100000 in
set_option maxHeartbeats 1000000 in
theorem copyF (zs : List Int) (A : Option Addr) (n c : Nat) (w : World) (hn : n ≤ 1048576) (h : RdZ 3 w w.heap.size A n zs) :
    Calls Try.prog 33 #[.slice A n c] w fun e w' => ∃ (g : Nat), e = .returned (.slice (some ⟨g, 0, none⟩) n n) ∧ w'.ownsRow w.heap.size 25 3 (.slice (some ⟨g, 0, none⟩) n n) n (cellsI zs) ∧ Below w.heap.size w w' := by
  obtain ⟨i0, hi, hz0, hz1, hz2⟩ := info_parts infoF
  have HL := Lib.hid h.1
  go_enter Try.func33, Try.ntmps33
  go_wp2_with (at_make; refine wpList_make_full _ rfl _ _ 30 rfl w.heap.size 25 i0 (.agg #[.int .i64 0, .int .i64 0, .int .i64 0]) 3 Try.underlying30 hi hz0 hz1 _ _ _ _ n rfl rfl rfl rfl (by rw [hz2]; omega) (by unfold maxLen; omega) (Nat.le_refl _) ?_; intro w1 hown hg)
  have hown0 : w1.ownsRow w.heap.size 25 3 (.slice (some ⟨w.heap.size, 0, none⟩) n n) n (filled zs 0 (n * 3)) := by
    have e : (madeCells (Value.cells (.agg #[.int .i64 0, .int .i64 0, .int .i64 0])) (n * 3)).toList = filled zs 0 (n * 3) := by
      unfold filled cellsI
      rw [List.take_zero, List.map_nil, List.nil_append, Nat.sub_zero]
      exact made3 n
    rw [← e]; exact hown
  have hb1 : Below w.heap.size w w1 := (Below.refl _ _).grown hg (Nat.le_refl _) (fun k e => by cases e)
  clear hown hg
  go_loopw [4] (fun i wr => ∃ k : Nat, k ≤ n ∧ i = .int .i64 k ∧ Below w.heap.size w wr ∧ wr.ownsRow w.heap.size 25 3 (.slice (some ⟨w.heap.size, 0, none⟩) n n) n (filled zs (k * 3) (n * 3))) (fun i _ => n - (intOf i).toNat)
  case atStart => exact ⟨0, Nat.zero_le _, rfl, hb1, hown0⟩
  case round =>
    obtain ⟨k, hk, rfl, hb, hown⟩ := hrel
    clear hb1 hown0
    by_cases hlt : k < n
    · obtain ⟨b, o, rfl, hbl, hc⟩ := h.at_ hlt
      have q0 : wr.cell? ⟨b, o + k * 3, none⟩ = some (.int .i64 (fld 3 zs k 0)) := (hb.cell (p := ⟨b, o + (k * 3 + 0), none⟩) hbl).trans (hc 0 (by omega))
      have q1 : wr.cell? ⟨b, o + k * 3 + 1, none⟩ = some (.int .i64 (fld 3 zs k 1)) := (hb.cell (p := ⟨b, o + (k * 3 + 1), none⟩) hbl).trans (hc 1 (by omega))
      have q2 : wr.cell? ⟨b, o + k * 3 + 2, none⟩ = some (.int .i64 (fld 3 zs k 2)) := (hb.cell (p := ⟨b, o + (k * 3 + 2), none⟩) hbl).trans (hc 2 (by omega))
      have hlt2 : (k : Int) < (n : Int) := by omega
      have hz3 : zs.length = n * 3 := HL.out
      have g0 := filled_set (zs := zs) (m := k * 3) (t := n * 3) (by omega) (by omega)
      have g1 := filled_set (zs := zs) (m := k * 3 + 1) (t := n * 3) (by omega) (by omega)
      have g2 := filled_set (zs := zs) (m := k * 3 + 2) (t := n * 3) (by omega) (by omega)
      have f0 : fld 3 zs k 0 = zs.getD (k * 3) 0 := rfl
      have f1 : fld 3 zs k 1 = zs.getD (k * 3 + 1) 0 := rfl
      have f2 : fld 3 zs k 2 = zs.getD (k * 3 + 2) 0 := rfl
      rw [← f0] at g0
      rw [← f1] at g1
      rw [← f2] at g2
      have hrow : ∀ j, j < n * 3 → ∃ u, (filled zs (k * 3) (n * 3))[j]? = some u := fun j hj => filled_at hz3 hj (by omega)
      have G0 := Lib.hid g0
      have G1 := Lib.hid g1
      have G2 := Lib.hid g2
      have TF := Lib.hid (fun w => frml.toFrame (fld 3 zs k 0) (fld 3 zs k 1) (fld 3 zs k 2) w)
      clear h hc g0 g1 g2 f0 f1 f2 hz3
      generalize fld 3 zs k 0 = x0 at *
      generalize fld 3 zs k 1 = x1 at *
      generalize fld 3 zs k 2 = x2 at *
      obtain ⟨u0, hu0⟩ := hrow (k * 3) (by omega)
      obtain ⟨u1, hu1⟩ := hrow (k * 3 + 1) (by omega)
      obtain ⟨u2, hu2⟩ := hrow (k * 3 + 2) (by omega)
      clear hrow
      go_wp2_with fail
      refine (TF.out _).mono ?_
      rintro e w2 ⟨rfl, hb2⟩
      have hown2 := own_.own_below hown hb2
      have hb3 := hb.trans (hb2.mono hb.size)
      have s0 := (hown2.cellAt (k * 3) (by omega)).trans hu0
      have s1 := (hown2.cellAt (k * 3 + 1) (by omega)).trans hu1
      have s2 := (hown2.cellAt (k * 3 + 2) (by omega)).trans hu2
      have r0 := hown2.frozenAt (k * 3)
      have r1 := hown2.frozenAt (k * 3 + 1)
      have r2 := hown2.frozenAt (k * 3 + 2)
      have st0 := (hown2.stored (k * 3) (.int .i64 x0)).1
      rw [G0.out] at st0
      have st1 := (st0.stored (k * 3 + 1) (.int .i64 x1)).1
      rw [G1.out] at st1
      have st2 := (st1.stored (k * 3 + 2) (.int .i64 x2)).1
      rw [G2.out] at st2
      have ST := Lib.hid st2
      have HB := Lib.hid (((hb3.setCell (p := ⟨w.heap.size, k * 3, none⟩) (Nat.le_refl _) (.int .i64 x0)).setCell (p := ⟨w.heap.size, k * 3 + 1, none⟩) (Nat.le_refl _) (.int .i64 x1)).setCell (p := ⟨w.heap.size, k * 3 + 2, none⟩) (Nat.le_refl _) (.int .i64 x2))
      clear hown hown2 st0 st1 st2 hb hb2 hb3 q0 q1 q2 hu0 hu1 hu2 G0 G1 G2
      go_wp2_with fail
      go_roundw
      case rel => exact ⟨k + 1, by omega, by go_num, HB.out, by rw [show (k + 1) * 3 = k * 3 + 2 + 1 by omega]; exact ST.out⟩
      case measure => simp [intOf]; omega
    · obtain rfl : k = n := by omega
      rw [filled_all HL.out] at hown
      clear h
      go_wp2_with fail
      go_ret
      exact ⟨w.heap.size, rfl, hown, hb⟩
end Go.Proofs.Ytpjpdfannnafbaa.frmz
