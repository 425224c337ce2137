/- impl's delaysFrom: the key of a point as an array of five. -/
import Derived.Test.YtpbopiecfnedgabBln
import Derived.Test.YtpbopiecfnedgabIntC
import Derived.Test.YtpbopiecfnedgabSitJ
import Derived.OwnWalk
namespace Go.Proofs.Ytpbopiecfnedgab.blni
open Go.RowKit Go.Proofs.Ytpbopiecfnedgab.ints Go.Proofs.Ytpbopiecfnedgab.lst Go.Proofs.Ytpbopiecfnedgab.ats Go.Proofs.Ytpbopiecfnedgab.intc Go.Proofs.Ytpbopiecfnedgab.sit Go.Proofs.Ytpbopiecfnedgab.loc Go.Proofs.Ytpbopiecfnedgab.bln

/-- The first j differences, and zeros behind them, five in all. -/
def padT (zs : List Int) (x y : Int) (j : Nat) : List Int := (List.range 5).map fun i => if i < j then ds zs x y i - ds zs x y 0 else 0
def padC (zs : List Int) (x y : Int) (j : Nat) : Array Value := #[.int .i64 (if 0 < j then ds zs x y 0 - ds zs x y 0 else 0), .int .i64 (if 1 < j then ds zs x y 1 - ds zs x y 0 else 0), .int .i64 (if 2 < j then ds zs x y 2 - ds zs x y 0 else 0), .int .i64 (if 3 < j then ds zs x y 3 - ds zs x y 0 else 0), .int .i64 (if 4 < j then ds zs x y 4 - ds zs x y 0 else 0)]
theorem padC_zero (zs : List Int) (x y : Int) : padC zs x y 0 = #[.int .i64 0, .int .i64 0, .int .i64 0, .int .i64 0, .int .i64 0] := rfl
theorem padC_set (zs : List Int) (x y : Int) : ∀ j, j < 5 → (padC zs x y j).setIfInBounds j (.int .i64 (ds zs x y j - ds zs x y 0)) = padC zs x y (j + 1)
  | 0, _ => rfl
  | 1, _ => rfl
  | 2, _ => rfl
  | 3, _ => rfl
  | 4, _ => rfl
  | j + 5, h => by omega

theorem below_setCells {B b : Nat} (hb : B ≤ b) : ∀ (vs : List Value) (o : Nat) (a w : World), Below B a w → Below B a (w.setCells b o vs)
  | [], _, _, _, h => h
  | v :: r, o, a, w, h => by
    rw [World.setCells]
    exact below_setCells hb r (o + 1) a _ (h.setCell (p := ⟨b, o, none⟩) hb v)
theorem range_block {w : World} {b : Nat} {c : Array Value} {t : TypeId} (h : w.heap[b]? = some (.cells c t)) : w.rangeAt b 0 c.toList := fun j v hv => by
  rw [Nat.zero_add, cell_of_row _ _ j c t (0, 0) h]
  simpa using hv
theorem there_block {w : World} {b n : Nat} {c : Array Value} {t : TypeId} (h : w.heap[b]? = some (.cells c t)) (hn : n ≤ c.size) : w.there b 0 n := fun j hj => by
  rw [Nat.zero_add]
  refine ⟨?_, ?_⟩
  · rw [cell_of_row _ _ j c t (0, 0) h, Array.getElem?_eq_getElem (by omega)]
    rfl
  · simp [World.frozen?, h]

set_option maxHeartbeats 4000000 in
theorem delaysFrom (zs : List Int) (x y : Int) (A : Option Addr) (n c : Nat) (w : World) (hn0 : 0 < n) (hn5 : n ≤ 5) (hon : onT zs n = true) (hp : onB x y = true) (h1 : RdZ 2 w w.heap.size A n zs) :
    Calls Try.prog 80 #[.agg #[.int .i64 x, .int .i64 y], .slice A n c] w fun e w' => e = .returned (.agg (padC zs x y n)) ∧ Below w.heap.size w w' := by
  have HD := Lib.hid (fun W (hb : Below w.heap.size w W) => sitj.distancesTo zs x y A n c W (by omega) hon hp (h1.next hb))
  have HA := Lib.hid (fun k (hk : k < n) => dsL_at (zs := zs) (x := x) (y := y) hk)
  have HI := Lib.hid (fun k (hk : k < n) => ds_in hon hk hp)
  have X0 := Lib.hid (newS 32 #[.int .i64 x, .int .i64 y] w)
  clear h1 hon hp
  have x1 : AtS 86 #[.int .i64 0, .int .i64 0, .int .i64 0, .int .i64 0, .int .i64 0] w ((w.alloc (.cells #[.int .i64 x, .int .i64 y] 32)).alloc (.cells #[.int .i64 0, .int .i64 0, .int .i64 0, .int .i64 0, .int .i64 0] 86)) (w.heap.size + 1) := by
    have := X0.out.next 86 #[.int .i64 0, .int .i64 0, .int .i64 0, .int .i64 0, .int .i64 0]
    rw [World.size_alloc] at this
    exact this
  have x2 : AtS 86 #[.int .i64 0, .int .i64 0, .int .i64 0, .int .i64 0, .int .i64 0] w (((w.alloc (.cells #[.int .i64 x, .int .i64 y] 32)).alloc (.cells #[.int .i64 0, .int .i64 0, .int .i64 0, .int .i64 0, .int .i64 0] 86)).alloc (.cells #[.int .i64 0, .int .i64 0, .int .i64 0, .int .i64 0, .int .i64 0] 86)) (w.heap.size + 1 + 1) := by
    have := x1.next 86 #[.int .i64 0, .int .i64 0, .int .i64 0, .int .i64 0, .int .i64 0]
    rw [World.size_alloc, World.size_alloc] at this
    exact this
  have X2 := Lib.hid x2
  have X1 := Lib.hid (x1.alloc (.cells #[.int .i64 0, .int .i64 0, .int .i64 0, .int .i64 0, .int .i64 0] 86))
  have XS := Lib.hid ((X0.out.alloc (.cells #[.int .i64 0, .int .i64 0, .int .i64 0, .int .i64 0, .int .i64 0] 86)).alloc (.cells #[.int .i64 0, .int .i64 0, .int .i64 0, .int .i64 0, .int .i64 0] 86))
  have hne : w.heap.size + 1 ≠ w.heap.size + 1 + 1 := by omega
  clear x1 x2 X0
  go_enter Try.func80, Try.ntmps80
  go_upto_region 2 with fail
  generalize ((w.alloc (.cells #[.int .i64 x, .int .i64 y] 32)).alloc (.cells #[.int .i64 0, .int .i64 0, .int .i64 0, .int .i64 0, .int .i64 0] 86)).alloc (.cells #[.int .i64 0, .int .i64 0, .int .i64 0, .int .i64 0, .int .i64 0] 86) = W0 at *
  generalize hbD : w.heap.size + 1 + 1 = bD at *
  generalize hbR : w.heap.size + 1 = bR at *
  clear hbD hbR
  have c0 := XS.out.cell 0
  have c1 := XS.out.cell 1
  go_upto_region 3 with fail
  refine (HD.out _ X2.out.1).mono ?_
  rintro e W1 ⟨v, rfl, ho, hb⟩
  obtain ⟨g, cg, rfl, hg⟩ : ∃ g cg, v = .slice (some ⟨g, 0, none⟩) n cg ∧ W0.heap.size ≤ g := by
    rcases ho.2 with ⟨_, h0⟩ | ⟨g, cap, cur, rfl, hge, _⟩
    · omega
    · exact ⟨g, cap, rfl, hge⟩
  have Y2 := Lib.hid (X2.out.old hb)
  have Y1 := Lib.hid (X1.out.old hb)
  have HO := Lib.hid ho
  have hD0 := X2.out.2.2.1
  clear ho hb X2 X1 XS HD c0 c1
  go_wp2_with fail
  go_loopw [14] (fun i wr => ∃ k : Nat, k ≤ n ∧ i = .int .i64 k ∧ AtS 86 (padC zs x y k) w wr bD ∧ AtS 86 #[.int .i64 0, .int .i64 0, .int .i64 0, .int .i64 0, .int .i64 0] w wr bR ∧ wr.ownsRow W0.heap.size 3 1 (.slice (some ⟨g, 0, none⟩) n cg) n (cellsI (dsL zs x y n))) (fun i _ => n - (intOf i).toNat)
  case atStart => exact ⟨0, Nat.zero_le _, rfl, by rw [padC_zero]; exact Y2.out, Y1.out, HO.out⟩
  case round =>
    obtain ⟨k, hk, rfl, h2, h3, ho⟩ := hrel
    clear Y2 Y1 HO
    by_cases hlt : k < n
    · have hlt2 : (k : Int) < (n : Int) := by omega
      have hk5 : (k : Int) < 5 := by omega
      have hk0 : (0 : Int) ≤ (k : Int) := Int.natCast_nonneg _
      have hn0i : (0 : Int) < (n : Int) := by omega
      have ik := HI.out k hlt
      have i0 := HI.out 0 hn0
      have hcell : ∀ j, j < n → wr.cell? ⟨g, j, none⟩ = some (.int .i64 (ds zs x y j)) := fun j hj => by
        rw [ho.cellAt j (by omega)]
        unfold cellsI
        rw [List.getElem?_map, HA.out j hj]; rfl
      have c0 := hcell 0 hn0
      have ck := hcell k hlt
      obtain ⟨u, hu⟩ : ∃ u, (padC zs x y k)[k]? = some u := ⟨_, Array.getElem?_eq_getElem (by show k < 5; omega)⟩
      have s0 : wr.cell? ⟨bD, k, none⟩ = some u := (h2.cell k).trans hu
      have f0 := h2.frozen k
      have st := h2.set k (.int .i64 (ds zs x y k - ds zs x y 0))
      rw [padC_set zs x y k (by omega)] at st
      have ST := Lib.hid st
      have SR := Lib.hid (h3.other (b' := bD) h2.2.1 hne k (.int .i64 (ds zs x y k - ds zs x y 0)))
      have SO := Lib.hid (own_kept ho (grown_set (grown_refl wr (some bD)) k (.int .i64 (ds zs x y k - ds zs x y 0))) (fun g e => by cases e; exact hD0))
      clear hcell hu st h2 h3 ho HA HI
      generalize ds zs x y k = dk at *
      generalize ds zs x y 0 = d0 at *
      have hw : IntKind.i64.wrap (dk - d0) = dk - d0 := IntWalk.i64_in _ (by omega)
      go_wp2_with fail
      go_roundw
      case rel => exact ⟨k + 1, by omega, by go_num, ST.out, SR.out, SO.out⟩
      case measure => (simp [intOf]; try omega)
    · obtain rfl : k = n := by omega
      have H2 := Lib.hid h2
      have H3 := Lib.hid h3
      have hsz : (padC zs x y k).size = 5 := rfl
      have h10 : (padC zs x y k).all (·.oneCell') = true := by simp [padC, Value.oneCell']
      clear h2 h3 ho HA HI
      generalize hC : padC zs x y k = C at *
      have HC := Lib.hid hC
      clear hC
      go_upto_region 8 with fail
      refine wp_region_lit ?_
      refine wpList_load_mid rfl 86 _ rfl _ _ rfl C.toList _ (range_block H2.out.2.2.2) Try.underlying86 rfl (by rw [Array.length_toList, hsz]; kernel_rfl) ?_
      refine wpList_store_mid rfl 86 _ _ rfl _ _ C.toList.toArray rfl rfl (there_block H3.out.2.2.2 (by simp [hsz])) (by rw [Array.toArray_toList, hsz]; kernel_rfl) (by rw [Array.toArray_toList]; exact h10) ?_
      rw [Array.toArray_toList]
      have hrg := World.rangeAt_setCells_same wr bR 0 C.toList (there_block H3.out.2.2.2 (by rw [Array.length_toList, hsz]; exact Nat.le_refl _))
      have hbl2 := below_setCells H3.out.2.1 C.toList 0 _ _ H2.out.1
      generalize World.setCells wr bR 0 C.toList = W2 at *
      go_wp2_with fail
      have hld := run_loadVar_mid (P := Try.prog) W2 bR 0 86 C.toList _ hrg Try.underlying86 rfl (by rw [Array.length_toList, hsz]; kernel_rfl)
      rw [Array.toArray_toList] at hld
      refine bodyPost_ret (v := .agg C) ?_ rfl ⟨by rw [HC.out], hbl2⟩
      rw [results_cell1 rfl]
      simp [asAddr, Result.andThen, hld, Act.put]
end Go.Proofs.Ytpbopiecfnedgab.blni
