/- The closure of impl.BlindPoints: one more for the key of a point. -/
import Derived.Test.YtpbopiecfnedgabBlnI
import Derived.Test.YtpbopiecfnedgabBlnM
import Derived.Test.YtpbopiecfnedgabTailH
import Derived.OwnWalk
namespace Go.Proofs.Ytpbopiecfnedgab.blnj
open Go.RowKit Go.Proofs.Ytpbopiecfnedgab.ints Go.Proofs.Ytpbopiecfnedgab.lst Go.Proofs.Ytpbopiecfnedgab.ats Go.Proofs.Ytpbopiecfnedgab.intc Go.Proofs.Ytpbopiecfnedgab.sit Go.Proofs.Ytpbopiecfnedgab.loc Go.Proofs.Ytpbopiecfnedgab.bln Go.Proofs.Ytpbopiecfnedgab.blni Go.Proofs.Ytpbopiecfnedgab.blnm Go.Proofs.Ytpbopiecfnedgab.tailh
open Go.WideMaps (KeyLaw)

theorem zero_int (w : World) : (zeroValue 3).run Try.prog w = .ok (.int .i64 0) w := by kernel_rfl

theorem IntWalk_wf (m : Int) (h0 : 0 ≤ m) (h1 : m ≤ 1000) : (Lit.int .i64 (m + 1)).wf = true := WalkArith.wf_i64 (by omega)
theorem at_grown {T : TypeId} {cs : Array Value} {w W W' : World} {g b : Nat} (h : AtS T cs w W g) (hg : W.grownBy W' (some b)) (hne : g ≠ b) (hb : w.heap.size ≤ b) : AtS T cs w W' g :=
  ⟨h.1.grown hg h.1.size (fun k e => by cases e; exact hb), h.2.1, Nat.lt_of_lt_of_le h.2.2.1 hg.size, (hg.block g h.2.2.1 (fun e => hne (by injection e))).trans h.2.2.2⟩
theorem ne_map {H : Type} {P : Program} {k : TypeId} {R : Value → Option (DataW H × List MemPlace)} {T : TypeId} {cs : Array Value} {w W : World} {g b n : Nat} {D : DataW H} (h : AtS T cs w W g) (hm : W.ownsMap P k R b n D) : g ≠ b := by
  rintro rfl
  obtain ⟨es, cl, h1, _⟩ := hm
  rw [h.2.2.2] at h1
  cases h1

set_option maxHeartbeats 4000000 in
theorem closure (KLaw : KeyLaw Try.prog 86) (zs : List Int) (x y : Int) (A : Option Addr) (n c g1 g2 b k : Nat) (m : Int) (w W : World) (D : DataW Unit) (kl : Lit) (hn0 : 0 < n) (hn5 : n ≤ 5) (hon : onT zs n = true) (hp : onB x y = true) (h1 : RdZ 2 w w.heap.size A n zs)
    (a1 : AtS 85 #[.map (some b)] w W g1) (a2 : AtS 29 #[.slice A n c] w W g2) (hm : W.ownsMap Try.prog 86 (plainElem Try.prog 3) b k D) (hk : k < 1000) (hkey : keyOf Try.prog 86 (.agg (padC zs x y n)) = some kl) (hb : w.heap.size ≤ b)
    (hcnt : D.atKey kl (.lit (.int .i64 0)) = .lit (.int .i64 m)) (hm0 : 0 ≤ m) (hm1 : m ≤ 1000) :
    Calls Try.prog 79 #[.agg #[.int .i64 x, .int .i64 y], .pointer (some ⟨g1, 0, none⟩), .pointer (some ⟨g2, 0, none⟩)] W fun e w' => e = .returned (.tuple #[]) ∧ AtS 85 #[.map (some b)] w w' g1 ∧ AtS 29 #[.slice A n c] w w' g2 ∧ w'.ownsMap Try.prog 86 (plainElem Try.prog 3) b (k + 1) (D.put kl (.lit (.int .i64 (m + 1)))) := by
  have DF := Lib.hid (fun W' (hb : Below w.heap.size w W') => delaysFrom zs x y A n c W' hn0 hn5 hon hp (h1.next hb))
  have E3 := Lib.hid (fun W' (h : World.ownsMap W' Try.prog 86 (plainElem Try.prog 3) b k D) => entry3 KLaw Try.underlying85 Try.underlying3 zero_int h (by unfold maxLen; omega) hkey)
  have a1' := a1.alloc (.cells #[.int .i64 x, .int .i64 y] 32)
  have a2' := a2.alloc (.cells #[.int .i64 x, .int .i64 y] 32)
  have bM0 := hm.lt
  have Z1 := a1.next 32 #[.int .i64 x, .int .i64 y]
  have hw : IntKind.i64.wrap (m + 1) = m + 1 := IntWalk.i64_in _ (by omega)
  have MM := Lib.hid (show (W.alloc (.cells #[.int .i64 x, .int .i64 y] 32)).drew.ownsMap Try.prog 86 (plainElem Try.prog 3) b k D from (hm.alloc _))
  have bM : b < (W.alloc (.cells #[.int .i64 x, .int .i64 y] 32)).drew.heap.size := by show b < (W.alloc _).heap.size; rw [World.size_alloc]; omega
  obtain ⟨cc, _, _, q1, _, q2, _, _, _⟩ := E3.out _ MM.out
  rw [hcnt] at q1
  injection q1 with q1
  injection q1 with _ q1
  subst q1
  have HS := Lib.hid (show World.cell? (W.alloc (.cells #[.int .i64 x, .int .i64 y] 32)).drew ⟨g1, 0, none⟩ = some (.map (some b)) ∧ World.cell? (W.alloc (.cells #[.int .i64 x, .int .i64 y] 32)).drew ⟨W.heap.size, 0, none⟩ = some (.int .i64 x) ∧ World.cell? (W.alloc (.cells #[.int .i64 x, .int .i64 y] 32)).drew ⟨W.heap.size, 1, none⟩ = some (.int .i64 y) ∧ World.cell? (W.alloc (.cells #[.int .i64 x, .int .i64 y] 32)).drew ⟨g2, 0, none⟩ = some (.slice A n c) ∧ (Instr.lookup 85 (.map (some b)) (.agg (padC zs x y n)) false).run Try.prog (W.alloc (.cells #[.int .i64 x, .int .i64 y] 32)).drew = .ok (.int .i64 m) (W.alloc (.cells #[.int .i64 x, .int .i64 y] 32)).drew from ⟨a1'.drew.cell 0, Z1.drew.cell 0, Z1.drew.cell 1, a2'.drew.cell 0, q2⟩)
  have Z0 := Lib.hid a1'.1
  have ZS := Lib.hid Z1
  have A1 := Lib.hid a1'
  have A2 := Lib.hid a2'
  clear a1' a2' Z1 q2 h1 hon hp hm a1 a2
  generalize padC zs x y n = C at *
  go_enter Try.func79, Try.ntmps79
  go_upto_region 1 with fail
  generalize W.alloc (.cells #[.int .i64 x, .int .i64 y] 32) = W0 at *
  generalize hbs : W.heap.size = bs at *
  refine wp_region_tail (S := fun w' => World.cell? w' ⟨g1, 0, none⟩ = some (.map (some b)) ∧ World.cell? w' ⟨bs, 0, none⟩ = some (.int .i64 x) ∧ World.cell? w' ⟨bs, 1, none⟩ = some (.int .i64 y) ∧ World.cell? w' ⟨g2, 0, none⟩ = some (.slice A n c) ∧ (Instr.lookup 85 (.map (some b)) (.agg C) false).run Try.prog w' = .ok (.int .i64 m) w') 8 (by kernel_rfl) HS.out (fun hHeld => ?_)
  try simp only [Act.put]
  refine wpAnyE_take (i := 0) (v := ?vq0) rfl (by decide +kernel) (fun _ _ _ h => h) (Or.inl ⟨by rfl, ?hq0⟩) (by assumption) ?rq0
  case hq0 =>
    intro wS hSw
    obtain ⟨h0, h1, h2, h3, h4⟩ := hSw
    go_simp
    try with_reducible rfl
  try simp only [Act.put]
  refine wpAnyE_take (i := 1) (v := ?vq1) rfl (by decide +kernel) (fun _ _ _ h => h) (Or.inl ⟨by rfl, ?hq1⟩) (by assumption) ?rq1
  case hq1 =>
    intro wS hSw
    obtain ⟨h0, h1, h2, h3, h4⟩ := hSw
    go_simp
    try with_reducible rfl
  try simp only [Act.put]
  refine wpAnyE_take (i := 2) (v := ?vq2) rfl (by decide +kernel) (fun _ _ _ h => h) (Or.inl ⟨by rfl, ?hq2⟩) (by assumption) ?rq2
  case hq2 =>
    intro wS hSw
    obtain ⟨h0, h1, h2, h3, h4⟩ := hSw
    go_simp
    try with_reducible rfl
  try simp only [Act.put]
  refine wpAnyE_ready (rs := [3]) (by kernel_rfl) (by simp) ?_
  refine AllReadyE.cons (i := 3) rfl (by decide) (fun K hK => ?_) AllReadyE.nil
  go_simp
  refine (DF.out _ Z0.out.drew).mono ?_
  rintro e W2 ⟨rfl, hb2⟩
  go_simp
  have M2 := map_below MM.out hb2 bM
  obtain ⟨cc, st, m1, q1, _, q2, q3, q4, q5⟩ := E3.out W2 M2
  rw [hcnt] at q1
  injection q1 with q1
  injection q1 with _ q1
  subst q1
  have B1 := Lib.hid (A1.out.drew.old hb2)
  have B2 := Lib.hid (A2.out.drew.old hb2)
  have BZ := Lib.hid (ZS.out.drew.old hb2)
  have Q3 := Lib.hid q3
  have Q4 := Lib.hid q4
  have Q5 := Lib.hid q5
  have N1 := ne_map B1.out M2
  have N2 := ne_map B2.out M2
  have N3 := ne_map BZ.out M2
  clear q3 q4 q5 M2 hb2
  refine hK.out _ _ ⟨B1.out.cell 0, BZ.out.cell 0, BZ.out.cell 1, B2.out.cell 0, q2⟩ (fun hHeld => ?_)
  clear hK K q2
  try simp only [Act.put]
  refine wpAnyE_take (i := 4) (v := ?vq4) rfl (by decide +kernel) (fun _ _ _ h => h) (Or.inl ⟨by rfl, ?hq4⟩) (by assumption) ?rq4
  case hq4 =>
    intro wS hSw
    obtain ⟨h0, h1, h2, h3, h4⟩ := hSw
    go_simp
    try with_reducible rfl
  try simp only [Act.put]
  refine wpAnyE_take (i := 5) (v := ?vq5) rfl (by decide +kernel) (fun _ _ _ h => h) (Or.inl ⟨by rfl, ?hq5⟩) (by assumption) ?rq5
  case hq5 =>
    intro wS hSw
    obtain ⟨h0, h1, h2, h3, h4⟩ := hSw
    go_simp
    try with_reducible rfl
  try simp only [Act.put]
  refine wpAnyE_ready (rs := [6]) (by kernel_rfl) (by simp) ?_
  refine AllReadyE.cons (i := 6) rfl (by decide) (fun K hK => ?_) AllReadyE.nil
  go_simp
  rw [Q3.out]
  go_simp
  have gE := grown_setBlock (w := W2) (b := b) (o' := m1)
  have C1 := Lib.hid (at_grown B1.out gE N1 hb)
  have C2 := Lib.hid (at_grown B2.out gE N2 hb)
  have CZ := Lib.hid (at_grown BZ.out gE N3 hb)
  clear gE
  refine hK.out _ _ ⟨C1.out.cell 0, CZ.out.cell 0, CZ.out.cell 1, C2.out.cell 0, Q4.out⟩ (fun hHeld => ?_)
  clear hK K
  try simp only [Act.put]
  refine wpAnyE_take (i := 7) (v := ?vq7) rfl (by decide +kernel) (fun _ _ _ h => h) (Or.inl ⟨by rfl, ?hq7⟩) (by assumption) ?rq7
  case hq7 =>
    intro wS hSw
    obtain ⟨h0, h1, h2, h3, h4⟩ := hSw
    go_simp
    try with_reducible rfl
  try simp only [Act.put]
  refine wpAnyE_ready (rs := [8]) (by kernel_rfl) (by simp) ?_
  refine AllReadyE.last (i := 8) rfl rfl (fun K hK => ?_)
  obtain ⟨W3, r1, r2, r3⟩ := Q5.out (m + 1) (IntWalk_wf m hm0 hm1)
  go_simp
  rw [show (Instr.entryStore 85 (.map (some b)) (.int .i64 (st : Int)) (.int .i64 (m + 1))).run Try.prog (ChangeMaps.setBlock W2 b m1) = .ok () W3 from r1]
  go_simp
  have E1 := Lib.hid (at_grown B1.out r3 N1 hb)
  have E2 := Lib.hid (at_grown B2.out r3 N2 hb)
  refine hK.out _ _ ?_
  clear hK K
  try simp only [Act.put]
  refine wpAnyE_done (by kernel_rfl) ?_ _
  try simp only [List.getElem_toArray, List.getElem_cons_succ, List.getElem_cons_zero, List.setIfInBounds_toArray, List.set_cons_succ, List.set_cons_zero]
  go_wp2_with fail
  go_end0
  exact ⟨rfl, E1.out, E2.out, r2⟩
end Go.Proofs.Ytpbopiecfnedgab.blnj
