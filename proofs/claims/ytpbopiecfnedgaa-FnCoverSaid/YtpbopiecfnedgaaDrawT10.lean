/- spec's draws of FnCover's inputs: DrawCoverOf, DrawCoveredPoints, DrawDropSite. -/
import Derived.Test.YtpbopiecfnedgaaDrawS10
namespace Go.Proofs.Ytpbopiecfnedgaa.drawt10
open Go.RowKit Go.Proofs.Ytpbopiecfnedgaa.cur Go.Proofs.Ytpbopiecfnedgaa.atc Go.Proofs.Ytpbopiecfnedgaa.ats Go.Proofs.Ytpbopiecfnedgaa.ints Go.Proofs.Ytpbopiecfnedgaa.lst Go.Proofs.Ytpbopiecfnedgaa.sit Go.Proofs.Ytpbopiecfnedgaa.code_ Go.Proofs.Ytpbopiecfnedgaa.draws10

theorem bytes_al {w : World} {A : Option Addr} {n : Nat} (o : Obj) (h : Bytes w w.heap.size A n) : Bytes (w.alloc o) (w.alloc o).heap.size A n := by
  intro h0
  obtain ⟨b, o', e, hb, hc⟩ := h h0
  exact ⟨b, o', e, by rw [World.size_alloc]; omega, fun j hj => by
    obtain ⟨x, hx⟩ := hc j hj
    exact ⟨x, (World.cell?_alloc_lt w _ ⟨b, o' + j, none⟩ hb).trans hx.1, hx.2⟩⟩
theorem at_grown {T : TypeId} {cs : Array Value} {w W W' : World} {b p : Nat} (h : AtS T cs w W b) (hg : W.grownBy W' (some p)) (hne : b ≠ p) (hp : w.heap.size ≤ p) : AtS T cs w W' b :=
  ⟨h.1.grown hg h.1.size (fun g e => by injection e with e; omega), h.2.1, Nat.lt_of_lt_of_le h.2.2.1 hg.size, (hg.block b h.2.2.1 (fun e => hne (by injection e))).trans h.2.2.2⟩
theorem results_three {fn : Func} {p q r : Tmp} {ty : TypeId} (h : fn.results = #[.tmp p, .cell q ty, .tmp r]) (tmps : Array Value) (P : Program) (w : World) :
    (results fn tmps).run P w = ((asAddr (tmps.getD q undef)).run P w).andThen fun a w₁ => ((loadVar ty a).run P w₁).andThen fun v w₂ => .ok (.tuple #[tmps.getD p undef, v, tmps.getD r undef]) w₂ := by
  simp only [results, h]
  simp [Sem.run_bind, Result.andThen]

def CoverQ (w : World) (e : Ending) (w' : World) : Prop := ∃ v n zs x y r, e = .returned (.tuple #[v, .agg #[.int .i64 x, .int .i64 y], .int .i64 r]) ∧ w'.ownsRow w.heap.size 34 2 v n (cellsI zs) ∧ n ≤ 6 ∧ okL zs n ∧ Near x y ∧ Below w.heap.size w w'
def CoveredQ (w : World) (e : Ending) (w' : World) : Prop := ∃ v n zs r c, e = .returned (.tuple #[v, .int .i64 r, .int .i64 c]) ∧ w'.ownsRow w.heap.size 34 2 v n (cellsI zs) ∧ n ≤ 6 ∧ Below w.heap.size w w'
def DropQ (w : World) (e : Ending) (w' : World) : Prop := ∃ v n zs i, e = .returned (.tuple #[v, .int .i64 i]) ∧ w'.ownsRow w.heap.size 34 2 v n (cellsI zs) ∧ n ≤ 6 ∧ Below w.heap.size w w'

theorem coveredPoints (A : Option Addr) (n c : Nat) (w : World) (hn : n ≤ 65536) (h : Bytes w w.heap.size A n) :
    Calls Try.prog 44 #[.slice A n c] w (CoveredQ w) := by
  have hc := Lib.hid (new_cur c (by omega) h)
  have hb0 : Below w.heap.size w (w.alloc (.cells #[.slice A n c, .int .i64 0, .int .u64 0] 105)) := (Below.refl _ _).alloc (Nat.le_refl _) _
  have hsz : (w.alloc (.cells #[.slice A n c, .int .i64 0, .int .u64 0] 105)).heap.size = w.heap.size + 1 := World.size_alloc _ _
  clear h
  go_enter Try.func44, Try.ntmps44
  go_wp2_with fail
  refine (sites _ 0 _ hc.out (by omega)).mono ?_
  rintro e w1 ⟨v, k, zs, rfl, ho, hk, -, hc1, hg1⟩
  have hb1 := below_of_grown hb0 hg1
  have HC1 := Lib.hid hc1
  have HO1 := Lib.hid ho
  clear ho hc1 hg1
  go_wp2_with fail
  refine (among_new 0 61 _ _ 6 [0, 5, 10, 20, 60, 61] _ w1 HC1.out (by omega) (by omega) (by omega) rfl rfl (by decide)).mono ?_
  rintro e w2 ⟨x, rfl, x0, x1, hc2, hg2⟩
  have hb2 := below_of_grown hb1 hg2
  have HO2 := Lib.hid (own_kept HO1.out hg2 (fun g e => by cases e; omega))
  have HC2 := Lib.hid hc2
  clear hc2 hg2 HO1 HC1
  go_wp2_with fail
  refine (among_new 0 6 _ _ 7 [1, 1, 2, 3, 5, 0, 6] _ w2 HC2.out (by omega) (by omega) (by omega) rfl rfl (by decide)).mono ?_
  rintro e w3 ⟨y, rfl, y0, y1, hc3, hg3⟩
  have hb3 := below_of_grown hb2 hg3
  have HO := Lib.hid (own_.own_base (own_kept HO2.out hg3 (fun g e => by cases e; omega)) hb0.size)
  clear hc3 hg3 HO2 HC2
  go_wp2_with fail
  go_ret3
  exact ⟨v, k, zs, x, y, rfl, HO.out, hk, hb3⟩

theorem dropSite (A : Option Addr) (n c : Nat) (w : World) (hn : n ≤ 65536) (h : Bytes w w.heap.size A n) :
    Calls Try.prog 45 #[.slice A n c] w (DropQ w) := by
  have hc := Lib.hid (new_cur c (by omega) h)
  have hb0 : Below w.heap.size w (w.alloc (.cells #[.slice A n c, .int .i64 0, .int .u64 0] 105)) := (Below.refl _ _).alloc (Nat.le_refl _) _
  have hsz : (w.alloc (.cells #[.slice A n c, .int .i64 0, .int .u64 0] 105)).heap.size = w.heap.size + 1 := World.size_alloc _ _
  clear h
  go_enter Try.func45, Try.ntmps45
  go_wp2_with fail
  refine (sites _ 0 _ hc.out (by omega)).mono ?_
  rintro e w1 ⟨v, k, zs, rfl, ho, hk, -, hc1, hg1⟩
  obtain ⟨A1, c1, rfl⟩ := own_sliceZ ho
  have hb1 := below_of_grown hb0 hg1
  have HC1 := Lib.hid hc1
  have HO1 := Lib.hid ho
  have hk6 : (k : Int) ≤ 6 := by omega
  clear ho hc1 hg1
  go_wp2_with fail
  refine (pick _ _ ((k : Int) + 2) w1 HC1.out (by omega) (by omega) (by omega)).mono ?_
  rintro e w2 ⟨x, rfl, x0, x1, hc2, hg2⟩
  have hb2 := below_of_grown hb1 hg2
  have HO := Lib.hid (own_.own_base (own_kept HO1.out hg2 (fun g e => by cases e; omega)) hb0.size)
  clear hc2 hg2 HO1 HC1
  go_wp2_with fail
  go_ret2
  exact ⟨_, k, zs, _, rfl, HO.out, hk, hb2⟩

set_option maxRecDepth 100000 in
set_option maxHeartbeats 2000000 in
theorem coverOf (A : Option Addr) (n c : Nat) (w : World) (hn : n ≤ 65536) (h : Bytes w w.heap.size A n) :
    Calls Try.prog 40 #[.slice A n c] w (CoverQ w) := by
  have B0 := Lib.hid ((newS 34 #[.int .i64 0, .int .i64 0] w).alloc (.cells #[.slice A n c, .int .i64 0, .int .u64 0] 105))
  have hc := new_cur c (by omega) (bytes_al (.cells #[.int .i64 0, .int .i64 0] 34) h)
  rw [World.size_alloc] at hc
  have HC := Lib.hid hc
  have HZ := Lib.hid (show w.heap.size ≤ ((w.alloc (.cells #[.int .i64 0, .int .i64 0] 34)).alloc (.cells #[.slice A n c, .int .i64 0, .int .u64 0] 105)).heap.size by rw [World.size_alloc, World.size_alloc]; omega)
  have HZ1 := Lib.hid (show w.heap.size + 1 < ((w.alloc (.cells #[.int .i64 0, .int .i64 0] 34)).alloc (.cells #[.slice A n c, .int .i64 0, .int .u64 0] 105)).heap.size by rw [World.size_alloc, World.size_alloc]; omega)
  clear h hc
  go_enter Try.func40, Try.ntmps40
  go_wp2_with fail
  generalize (w.alloc (.cells #[.int .i64 0, .int .i64 0] 34)).alloc (.cells #[.slice A n c, .int .i64 0, .int .u64 0] 105) = W at *
  refine (sites _ 0 W HC.out (by omega)).mono ?_
  rintro e w1 ⟨v, k, zs, rfl, ho, hk, hok, hc1, hg1⟩
  have B1 := Lib.hid (at_grown B0.out hg1 (by omega) (by omega))
  have HC1 := Lib.hid hc1
  have HO1 := Lib.hid ho
  have HOK := Lib.hid hok
  clear ho hc1 hg1 B0 HC hok
  go_wp2_with fail
  refine (anyPoint _ _ w1 HC1.out (by omega)).mono ?_
  rintro e w2 ⟨x, y, rfl, hv, hc2, hg2⟩
  have B2 := Lib.hid (at_grown B1.out hg2 (by omega) (by omega))
  have HC2 := Lib.hid hc2
  have HO2 := Lib.hid (own_kept HO1.out hg2 (fun g e => by cases e; exact HZ1.out))
  have HV := Lib.hid hv
  clear hc2 hg2 B1 HC1 HO1 hv
  go_wp2_with fail
  refine (among_new (-1) 61 _ _ 7 [0, 10, 20, 30, 60, 61, -1] _ w2 HC2.out (by omega) (by omega) (by omega) rfl rfl (by decide)).mono ?_
  rintro e w3 ⟨r, rfl, r0, r1, hc3, hg3⟩
  have B3 := Lib.hid (at_grown B2.out hg3 (by omega) (by omega))
  have HO3 := Lib.hid (own_kept HO2.out hg3 (fun g e => by cases e; exact HZ1.out))
  clear hc3 hg3 B2 HC2 HO2
  have c_0 : w3.cell? ⟨w.heap.size, 0, none⟩ = some (.int .i64 0) := B3.out.cell 0
  have cf_0 : w3.frozen? ⟨w.heap.size, 0, none⟩ = false := B3.out.frozen 0
  have c_1 : w3.cell? ⟨w.heap.size, 1, none⟩ = some (.int .i64 0) := B3.out.cell 1
  have cf_1 : w3.frozen? ⟨w.heap.size, 1, none⟩ = false := B3.out.frozen 1
  have HE := Lib.hid ((B3.out.set 0 (.int .i64 x)).set 1 (.int .i64 y))
  have HO := Lib.hid (show ((w3.setCell ⟨w.heap.size, 0, none⟩ (.int .i64 x)).setCell ⟨w.heap.size, 1, none⟩ (.int .i64 y)).ownsRow w.heap.size 34 2 v k (cellsI zs) from own_.own_base (own_kept (own_kept HO3.out (grown_set (grown_refl w3 (some w.heap.size)) 0 (.int .i64 x)) (fun g e => by cases e; have := HZ1.out; omega)) (grown_set (grown_refl _ (some w.heap.size)) 1 (.int .i64 y)) (fun g e => by cases e; have := HZ1.out; omega)) HZ.out)
  clear B3
  go_wp2_with fail
  have hl := HE.out.load Try.underlying34 rfl (by kernel_rfl)
  refine bodyPost_ret (v := .tuple #[v, .agg #[.int .i64 x, .int .i64 y], .int .i64 r]) ?_ rfl ⟨v, k, zs, x, y, r, rfl, HO.out, hk, HOK.out, HV.out, HE.out.1⟩
  rw [results_three rfl]
  simp [asAddr, Result.andThen, hl]
end Go.Proofs.Ytpbopiecfnedgaa.drawt10
