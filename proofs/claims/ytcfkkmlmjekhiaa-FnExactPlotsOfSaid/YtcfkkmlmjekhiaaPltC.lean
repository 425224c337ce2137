/- A slice of plots read; the laws' eqPlotS on two of them. -/
import Derived.Test.YtcfkkmlmjekhiaaPltN0
import Derived.Test.YtcfkkmlmjekhiaaPltV
namespace Go.Proofs.Ytcfkkmlmjekhiaa.pltc
open Go.RowKit Go.Proofs.Ytcfkkmlmjekhiaa.ints Go.Proofs.Ytcfkkmlmjekhiaa.lst Go.Proofs.Ytcfkkmlmjekhiaa.plt Go.Proofs.Ytcfkkmlmjekhiaa.pltm Go.Proofs.Ytcfkkmlmjekhiaa.pltn0 Go.Proofs.Ytcfkkmlmjekhiaa.rws

theorem plCells_at {zs : List Int} : ∀ {G : List (List Nat)} {us : List Value} {g : Nat} {q : List Nat} {u : Value}, us.length = G.length → G[g]? = some q → us[g]? = some u → ∀ j, j < 5 → (plCells zs G us)[g * 5 + j]? = (plc zs q u)[j]?
  | [], us, g, q, u, _, h1, _, j, hj => by simp at h1
  | q0 :: G, [], g, q, u, hl, _, _, j, hj => by simp at hl
  | q0 :: G, u0 :: us, 0, q, u, hl, h1, h2, j, hj => by
    obtain rfl : q0 = q := by simpa using h1
    obtain rfl : u0 = u := by simpa using h2
    show (plc zs q0 u0 ++ plCells zs G us)[0 * 5 + j]? = _
    rw [Nat.zero_mul, Nat.zero_add, List.getElem?_append_left (by show j < 5; exact hj)]
  | q0 :: G, u0 :: us, g + 1, q, u, hl, h1, h2, j, hj => by
    show (plc zs q0 u0 ++ plCells zs G us)[(g + 1) * 5 + j]? = _
    have e : (plc zs q0 u0).length = 5 := rfl
    rw [List.getElem?_append_right (by rw [e]; omega), e, show (g + 1) * 5 + j - 5 = g * 5 + j by omega]
    exact plCells_at (by simpa using hl) (by simpa using h1) (by simpa using h2) j hj
theorem GP.read {zs : List Int} {B : Nat} {W : World} {v : Value} {G : List (List Nat)} (h : GP zs B W v G) {g : Nat} {q : List Nat} (hq : G[g]? = some q) :
    ∃ ob oc A c, v = .slice (some ⟨ob, 0, none⟩) G.length oc ∧ ob < W.heap.size ∧ B ≤ ob ∧ (∀ j, W.frozen? ⟨ob, j, none⟩ = false) ∧ W.cell? ⟨ob, g * 5, none⟩ = some (.int .i64 (plS zs q)) ∧ W.cell? ⟨ob, g * 5 + 1, none⟩ = some (.int .i64 (plA zs q)) ∧
      W.cell? ⟨ob, g * 5 + 2, none⟩ = some (.int .i64 (plX zs q)) ∧ W.cell? ⟨ob, g * 5 + 3, none⟩ = some (.int .i64 (plY zs q)) ∧ W.cell? ⟨ob, g * 5 + 4, none⟩ = some (.slice A q.length c) ∧ W.ownsRow B 3 1 (.slice A q.length c) q.length (cellsI (plL zs q)) := by
  obtain ⟨us, hl, h1, h2⟩ := h
  have hg := (List.getElem?_eq_some_iff.1 hq).1
  obtain ⟨u, hu⟩ : ∃ u, us[g]? = some u := ⟨_, List.getElem?_eq_getElem (by rw [hl]; exact hg)⟩
  obtain ⟨m, ho⟩ := h2.2.1 g u _ hu (by rw [List.getElem?_map, hq]; rfl)
  obtain rfl : m = q.length := by
    have := ho.1
    unfold cellsI at this
    rw [List.length_map, plL_length] at this
    omega
  obtain ⟨A, c, rfl⟩ := own_sliceZ ho
  rcases h1.2 with ⟨_, e0⟩ | ⟨ob, cap, cur, rfl, hB, hh, _⟩
  · omega
  · have hc := fun j hj x hx => h1.cells (g := ob) rfl (g * 5 + j) x ((plCells_at hl hq hu j hj).trans hx)
    refine ⟨ob, cap, A, c, rfl, (h1.lt ob rfl).2, hB, fun j => h1.frozenAt j, ?_, ?_, ?_, ?_, ?_, ho⟩
    · have := hc 0 (by decide) _ rfl; rwa [Addr.add_lit, Nat.zero_add] at this
    · have := hc 1 (by decide) _ rfl; rwa [Addr.add_lit, Nat.zero_add] at this
    · have := hc 2 (by decide) _ rfl; rwa [Addr.add_lit, Nat.zero_add] at this
    · have := hc 3 (by decide) _ rfl; rwa [Addr.add_lit, Nat.zero_add] at this
    · have := hc 4 (by decide) _ rfl; rwa [Addr.add_lit, Nat.zero_add] at this

set_option maxRecDepth 100000 in
set_option maxHeartbeats 1000000 in
theorem eqPlotS (zs : List Int) (B1 B2 : Nat) (A C : Option Addr) (G : List (List Nat)) (n c d : Nat) (w : World) (hn : G.length = n) (hn2 : n ≤ 1048577) (hq : ∀ q ∈ G, q.length ≤ 1048577) (h1 : GP zs B1 w (.slice A n c) G) (h2 : GP zs B2 w (.slice C n d) G) :
    Calls Try.prog 32 #[.slice A n c, .slice C n d] w fun e w' => e = .returned (.bool true) ∧ Below w.heap.size w w' := by
  have H1 := Lib.hid h1
  have H2 := Lib.hid h2
  have HN := Lib.hid hn
  have HQ := Lib.hid hq
  clear h1 h2 hn hq
  go_enter Try.func32, Try.ntmps32
  go_wp2
  go_loopw [5] (fun i wr => ∃ k : Nat, k ≤ n ∧ i = .int .i64 k ∧ Below w.heap.size w wr) (fun i _ => n - (intOf i).toNat)
  case atStart => exact ⟨0, Nat.zero_le _, rfl, Below.refl _ _⟩
  case round =>
    obtain ⟨k, hk, rfl, hb⟩ := hrel
    by_cases hlt : k < n
    · obtain ⟨q, hq⟩ : ∃ q, G[k]? = some q := ⟨_, List.getElem?_eq_getElem (by rw [HN.out]; exact hlt)⟩
      obtain ⟨b1, c1, A1, d1, e1, -, -, -, p0, p1, p2, p3, p4, o1⟩ := GP.read (H1.out.below hb) hq
      obtain ⟨b2, c2, A2, d2, e2, -, -, -, r0, r1, r2, r3, r4, o2⟩ := GP.read (H2.out.below hb) hq
      obtain rfl : A = some ⟨b1, 0, none⟩ := by injection e1
      obtain rfl : C = some ⟨b2, 0, none⟩ := by injection e2
      have hlt2 : (k : Int) < (n : Int) := by omega
      have R1 := Lib.hid (RdI.of_own (by rw [plL_length]; exact o1) (plL_length zs q).symm)
      have R2 := Lib.hid (RdI.of_own (by rw [plL_length]; exact o2) (plL_length zs q).symm)
      have hql := HQ.out q (List.mem_of_getElem? hq)
      have X1 := Lib.hid (fun d0 os => Calls.regrown_of (pltv.eqPlot (plS zs q) (plA zs q) (plX zs q) (plY zs q) (plL zs q) A1 A2 q.length d1 d2 (Sort.grow (redrawn wr d0) os) hql (R1.out.next (below_regrown wr d0 os)) (R2.out.next (below_regrown wr d0 os))))
      have HB := Lib.hid hb
      clear hb e1 e2 o1 o2 hq
      go_wp2_with fail
      have p0' := fun d0 os => cell_regrown p0 d0 os
      have p1' := fun d0 os => cell_regrown p1 d0 os
      have p2' := fun d0 os => cell_regrown p2 d0 os
      have p3' := fun d0 os => cell_regrown p3 d0 os
      have p4' := fun d0 os => cell_regrown p4 d0 os
      have r0' := fun d0 os => cell_regrown r0 d0 os
      have r1' := fun d0 os => cell_regrown r1 d0 os
      have r2' := fun d0 os => cell_regrown r2 d0 os
      have r3' := fun d0 os => cell_regrown r3 d0 os
      have r4' := fun d0 os => cell_regrown r4 d0 os
      clear p0 p1 p2 p3 p4 r0 r1 r2 r3 r4
      refine wp_region_quiet_below (by kernel_rfl) (by kernel_rfl) ?_
      repeat (quiet_step (first
        | (go_at_call 38; with_reducible exact X1.out _ _)))
      refine wpQuiet_nil ?_
      intro _ hw'
      obtain ⟨⟨dq, osq⟩, hw''⟩ := hw'
      subst hw''
      have hbq := Lib.hid (HB.out.trans ((below_regrown wr dq osq).mono HB.out.size))
      clear p0' p1' p2' p3' p4' r0' r1' r2' r3' r4' X1 R1 R2
      generalize Sort.grow (redrawn wr dq) osq = w3 at *
      go_wp2_with fail
      go_roundw
      case rel => exact ⟨k + 1, by omega, by go_num, hbq.out⟩
      case measure => simp [intOf]; omega
    · obtain rfl : k = n := by omega
      have HB := Lib.hid hb
      clear hb
      go_wp2_with fail
      go_ret
      exact ⟨rfl, HB.out⟩
end Go.Proofs.Ytcfkkmlmjekhiaa.pltc
