/- impl's TurnedSector and SameSector; slices.Clone and slices.Reverse at places. -/
import Derived.Test.YtkndfklbonkbiaaSctY
import Derived.Test.YtkndfklbonkbiaaSctL
import Derived.Test.YtkndfklbonkbiaaRws
import Derived.Laws.OwnMore
namespace Go.Proofs.Ytkndfklbonkbiaa.sctg
open Go.RowKit Go.Proofs.Ytkndfklbonkbiaa.ints Go.Proofs.Ytkndfklbonkbiaa.lst Go.Proofs.Ytkndfklbonkbiaa.in_ Go.Proofs.Ytkndfklbonkbiaa.ats Go.Proofs.Ytkndfklbonkbiaa.pos Go.Proofs.Ytkndfklbonkbiaa.sct Go.Proofs.Ytkndfklbonkbiaa.sctt Go.Proofs.Ytkndfklbonkbiaa.sctv Go.Proofs.Ytkndfklbonkbiaa.scti Go.Proofs.Ytkndfklbonkbiaa.sctj Go.Proofs.Ytkndfklbonkbiaa.sctb Go.Proofs.Ytkndfklbonkbiaa.sctr Go.Proofs.Ytkndfklbonkbiaa.sctl Go.Proofs.Ytkndfklbonkbiaa.rws

theorem cellsI_at {xs : List Int} {j : Nat} {u : Value} (h : (cellsI xs)[j]? = some u) : ∃ x, xs[j]? = some x ∧ u = .int .i64 x := by
  unfold cellsI at h
  rw [List.getElem?_map] at h
  cases hx : xs[j]? with
  | none => rw [hx] at h; cases h
  | some x => rw [hx] at h; exact ⟨x, rfl, by simpa using h.symm⟩
theorem at_gr {T : TypeId} {cs : Array Value} {w W W' : World} {b p : Nat} (h : ats.AtS T cs w W b) (hg : W.grownBy W' (some p)) (hne : b ≠ p) (hp : w.heap.size ≤ p) : ats.AtS T cs w W' b :=
  ⟨h.1.grown hg h.1.size (fun g e => by injection e with e; omega), h.2.1, Nat.lt_of_lt_of_le h.2.2.1 hg.size, (hg.block _ h.2.2.1 (fun e => by injection e with e; exact hne e)).trans h.2.2.2⟩
theorem row_some2 {w : World} {B e s n : Nat} {v : Value} {xs : List Value} (h : w.ownsRow B e s v n xs) (hn : 0 < n) : ∃ g c, v = .slice (some ⟨g, 0, none⟩) n c ∧ B ≤ g ∧ g < w.heap.size ∧ n ≤ c := by
  rcases h.2 with ⟨_, h1⟩ | ⟨g, cap, cur, rfl, hB, hh, a, b, c⟩
  · omega
  · refine ⟨g, cap, rfl, hB, ?_, by omega⟩
    rcases Nat.lt_or_ge g w.heap.size with h2 | h2
    · exact h2
    · rw [Array.getElem?_eq_none h2] at hh; cases hh
theorem src_at {w : World} {B n m b o : Nat} {zs : List Int} (h : RdZ 2 w B (some ⟨b, o, none⟩) n zs) (hn : 0 < n) : ∀ j u, (cellsI (zs.drop m))[j]? = some u → w.cell? ((⟨b, o + m, none⟩ : Addr).add j) = some u := by
  intro j u hu
  obtain ⟨x, hx, rfl⟩ := cellsI_at hu
  obtain ⟨b', o', e, hlt, hc⟩ := h.2 hn
  obtain ⟨rfl, rfl⟩ : b = b' ∧ o = o' := by injection e with e; injection e with e1 e2; exact ⟨e1, e2⟩
  rw [List.getElem?_drop] at hx
  rw [Addr.add_lit, Nat.add_assoc]
  exact hc _ x hx
theorem src_take {w : World} {B n b o : Nat} {zs : List Int} (k : Nat) (h : RdZ 2 w B (some ⟨b, o, none⟩) n zs) (hn : 0 < n) : ∀ j u, (cellsI (zs.take k))[j]? = some u → w.cell? ((⟨b, o, none⟩ : Addr).add j) = some u := by
  intro j u hu
  obtain ⟨x, hx, rfl⟩ := cellsI_at hu
  rw [List.getElem?_take] at hx
  split at hx
  · have := src_at (m := 0) h hn j (.int .i64 x) (by rw [List.drop_zero]; unfold cellsI; rw [List.getElem?_map, hx]; rfl)
    exact this
  · cases hx
theorem cells_len (zs : List Int) : (cellsI zs).length = zs.length := by unfold cellsI; rw [List.length_map]
theorem src_cell {w W : World} {n b o : Nat} {zs : List Int} (h : RdZ 2 w w.heap.size (some ⟨b, o, none⟩) n zs) (hl : zs.length = n * 2) (hb : Below w.heap.size w W) : ∀ j u, (cellsI zs)[j]? = some u → W.cell? ((⟨b, o, none⟩ : Addr).add j) = some u := by
  intro j u hu
  rcases Nat.eq_zero_or_pos n with h0 | h0
  · have := (List.getElem?_eq_some_iff.1 hu).1
    rw [cells_len, hl, h0] at this
    omega
  · have h1 := src_at (m := 0) h h0 j u (by rw [List.drop_zero]; exact hu)
    rw [Nat.add_zero] at h1
    exact (hb.cell (World.block_lt_of_cell? _ _ h1)).trans h1
theorem ints_one (xs : List Int) : ∀ u ∈ cellsI xs, u.oneCell' = true := by
  intro u hu
  unfold cellsI at hu
  obtain ⟨x, _, rfl⟩ := List.mem_map.mp hu
  rfl
theorem grown_drew {w w' : World} {r : Option Nat} (h : w.grownBy w' r) : w.grownBy w'.drew r := ⟨h.os, h.tape, h.output, h.size, h.block⟩
set_option maxRecDepth 100000 in
set_option maxHeartbeats 2000000 in
theorem cloneP (zs : List Int) (A : Option Addr) (n c : Nat) (w : World) (hn : n ≤ 1048577) (h : RdZ 2 w w.heap.size A n zs) :
    Calls Try.prog 61 #[.slice A n c] w fun e w' => ∃ v, e = .returned v ∧ w'.ownsRow w.heap.size 31 2 v n (cellsI zs) ∧ Below w.heap.size w w' := by
  have q28 : ∀ (w : World) (a : Option Addr) (n c n' c' : Nat), (binOp .eql 40 (.slice a n c) (.slice none n' c')).run Try.prog w = .ok (.bool a.isNone) w := fun w a n c n' c' => Lib.run_eql_slice_nil w _ _ a n c n' c' Try.underlying40
  cases A with
  | none =>
    obtain rfl : n = 0 := by
      rcases Nat.eq_zero_or_pos n with h0 | h0
      · exact h0
      · obtain ⟨b, o, e, _⟩ := h.2 h0; cases e
    have hz : zs = [] := List.eq_nil_of_length_eq_zero (by rw [h.1])
    subst hz
    clear h
    go_enter Try.func61, Try.ntmps61
    go_wp2_with fail
    go_ret
    exact ⟨_, rfl, World.ownsRow_nil .., Below.refl _ _⟩
  | some a =>
    obtain ⟨iT, hiT, hzT0, hzT1, hzT2⟩ := info_parts lst.infoP
    obtain ⟨b, o, s⟩ := a
    have HE := Lib.hid ((Below.refl w.heap.size w).alloc (Nat.le_refl _) (.cells #[] 31))
    have HL := Lib.hid (show (cellsI zs).length = n * 2 by rw [cells_len]; exact h.1)
    have HS := Lib.hid (show ∀ j u, (cellsI zs)[j]? = some u → (w.alloc (.cells #[] 31)).cell? ((⟨b, o, s⟩ : Addr).add j) = some u from by
      intro j u hu
      rcases Nat.eq_zero_or_pos n with h0 | h0
      · have := (List.getElem?_eq_some_iff.1 hu).1
        rw [cells_len, h.1, h0] at this
        omega
      · obtain ⟨b', o', e, _⟩ := h.2 h0
        obtain ⟨rfl, rfl, rfl⟩ : b = b' ∧ o = o' ∧ s = none := by injection e with e; injection e with e1 e2 e3; exact ⟨e1, e2, e3⟩
        exact src_cell h h.1 HE.out j u hu)
    clear h
    go_enter Try.func61, Try.ntmps61
    go_wp2_with (at_builtin; refine wpList_append_any rfl (.tmp 5) (.tmp 6) 40 rfl w.heap.size 31 iT (.agg #[.int .i64 0, .int .i64 0]) 2 16 Try.underlying40 hiT hzT0 hzT1 hzT2 rfl (by decide) _ 0 [] rfl (own_emptyZ w 31 2) ⟨b, o, s⟩ n c (cellsI zs) rfl HL.out HS.out (ints_one _) (by unfold maxLen; omega) (by omega) (by rw [World.size_alloc]; omega) ?_; intro v6 w6 o6 g6 n6; rw [Nat.zero_add, List.nil_append] at o6)
    have O6 := Lib.hid o6
    have B6 := Lib.hid (HE.out.grown g6 HE.out.size (own_.row_ge (own_emptyZ w 31 2)))
    clear o6 g6 n6
    go_wp2_with fail
    go_ret
    exact ⟨_, rfl, O6.out, B6.out⟩

set_option maxRecDepth 100000 in
set_option maxHeartbeats 4000000 in
/-- The tail reversed in place. -/
theorem reverseTail (X Y : Nat → Int) (B g n cap m cq : Nat) (w : World) (h3 : 3 ≤ n) (h8 : n ≤ 8) (hm : m + 1 = n) (ho : w.ownsRow B 31 2 (.slice (some ⟨g, 0, none⟩) n cap) n (cellsI (prL X Y (fun k => k) n))) :
    Calls Try.prog 62 #[.slice (some ⟨g, 2, none⟩) m cq] w fun e w' => e = .returned (.tuple #[]) ∧ w'.ownsRow B 31 2 (.slice (some ⟨g, 0, none⟩) n cap) n (cellsI (prL X Y (rv n) n)) ∧ w.grownBy w' (some g) := by
  have w0 : IntKind.i64.wrap ((m : Int) - 1) = (m : Int) - 1 := IntWalk.i64_in _ (by omega)
  have HO := Lib.hid ho
  have HGB := Lib.hid (own_.row_ge ho g rfl)
  clear ho
  go_enter Try.func62, Try.ntmps62
  go_wp2_with fail
  go_loopw [2, 3] (fun s r wr => ∃ t : Nat, 2 * t ≤ m + 1 ∧ s = .int .i64 t ∧ r = .int .i64 ((m : Int) - 1 - t) ∧ wr.ownsRow B 31 2 (.slice (some ⟨g, 0, none⟩) n cap) n (cellsI (prL X Y (sg n t) n)) ∧ w.grownBy wr (some g)) (fun s _ _ => n - (intOf s).toNat)
  case atStart => exact ⟨0, by omega, rfl, by simp, by rw [pr_ext X Y (fun k hk => sg_zero hk)]; exact HO.out, grown_refl _ _⟩
  case round =>
    obtain ⟨t, ht, rfl, rfl, hown, hgr⟩ := hrel
    by_cases hlt : (t : Int) < (m : Int) - 1 - t
    · obtain ⟨r, hr⟩ : ∃ r, r + t + 1 = m := ⟨m - 1 - t, by omega⟩
      have er : (m : Int) - 1 - t = (r : Int) := by omega
      rw [er] at hlt ⊢
      have hr2 : (r : Int) < (m : Int) := by omega
      have ht2 : (t : Int) < (m : Int) := by omega
      have ht0 : (0 : Int) ≤ (t : Int) := Int.natCast_nonneg _
      have hr0 : (0 : Int) ≤ (r : Int) := Int.natCast_nonneg _
      have w1 : IntKind.i64.wrap ((t : Int) + 1) = (t : Int) + 1 := IntWalk.i64_in _ (by omega)
      have w2 : IntKind.i64.wrap ((r : Int) - 1) = (r : Int) - 1 := IntWalk.i64_in _ (by omega)
      have ga : ∀ k c, k < n → c < 2 → wr.cell? ⟨g, k * 2 + c, none⟩ = some (.int .i64 (if c = 0 then X (sg n t k) else Y (sg n t k))) := fun k c hk hc => by
        rw [hown.cellAt (k * 2 + c) (by omega)]
        unfold cellsI
        rw [List.getElem?_map, pr_get X Y (sg n t) hk hc]; rfl
      have p0 : wr.cell? ⟨g, 2 + t * 2, none⟩ = some (.int .i64 (X (sg n t (t + 1)))) := by have := ga (t + 1) 0 (by omega) (by omega); rwa [show (t + 1) * 2 + 0 = 2 + t * 2 by omega] at this
      have p1 : wr.cell? ⟨g, 2 + t * 2 + 1, none⟩ = some (.int .i64 (Y (sg n t (t + 1)))) := by have := ga (t + 1) 1 (by omega) (by omega); rwa [show (t + 1) * 2 + 1 = 2 + t * 2 + 1 by omega] at this
      have q0 : wr.cell? ⟨g, 2 + r * 2, none⟩ = some (.int .i64 (X (sg n t (r + 1)))) := by have := ga (r + 1) 0 (by omega) (by omega); rwa [show (r + 1) * 2 + 0 = 2 + r * 2 by omega] at this
      have q1 : wr.cell? ⟨g, 2 + r * 2 + 1, none⟩ = some (.int .i64 (Y (sg n t (r + 1)))) := by have := ga (r + 1) 1 (by omega) (by omega); rwa [show (r + 1) * 2 + 1 = 2 + r * 2 + 1 by omega] at this
      have f0 := hown.frozenAt (2 + t * 2)
      have f1 := hown.frozenAt (2 + t * 2 + 1)
      have f2 := hown.frozenAt (2 + r * 2)
      have f3 := hown.frozenAt (2 + r * 2 + 1)
      have HRX := Lib.hid (fun (V : World) (hv : V.ownsRow B 31 2 (.slice (some ⟨g, 0, none⟩) n cap) n (cellsI (prL X Y (sg n t) n))) => show ((((V.setCell ⟨g, 2 + t * 2, none⟩ (.int .i64 (X (sg n t (r + 1))))).setCell ⟨g, 2 + t * 2 + 1, none⟩ (.int .i64 (Y (sg n t (r + 1))))).setCell ⟨g, 2 + r * 2, none⟩ (.int .i64 (X (sg n t (t + 1))))).setCell ⟨g, 2 + r * 2 + 1, none⟩ (.int .i64 (Y (sg n t (t + 1))))).ownsRow B 31 2 (.slice (some ⟨g, 0, none⟩) n cap) n (cellsI (prL X Y (sg n (t + 1)) n)) from by
        have s := ((((hv.stored (2 + t * 2) (.int .i64 (X (sg n t (r + 1))))).1.stored (2 + t * 2 + 1) (.int .i64 (Y (sg n t (r + 1))))).1.stored (2 + r * 2) (.int .i64 (X (sg n t (t + 1))))).1.stored (2 + r * 2 + 1) (.int .i64 (Y (sg n t (t + 1))))).1
        have e := pr_swap X Y (sg n t) (n := n) (a := t + 1) (b := r + 1) (by omega) (by omega) (by omega)
        rw [show (t + 1) * 2 + 1 = 2 + t * 2 + 1 by omega, show (t + 1) * 2 = 2 + t * 2 by omega, show (r + 1) * 2 + 1 = 2 + r * 2 + 1 by omega, show (r + 1) * 2 = 2 + r * 2 by omega] at e
        have e2 : prL X Y (sw (sg n t) (t + 1) (r + 1)) n = prL X Y (sg n (t + 1)) n := pr_ext X Y (fun k hk => by rw [show r + 1 = n - 1 - t by omega]; exact sg_succ hk (by omega))
        unfold cellsI at s ⊢
        rw [← List.map_set, ← List.map_set, ← List.map_set, ← List.map_set, e, e2] at s
        exact s)
      have HOW := Lib.hid hown
      have HGR := Lib.hid hgr
      have lg : g < wr.heap.size := World.block_lt_of_cell? _ _ p0
      have n0 : 2 + t * 2 ≠ 2 + r * 2 := by omega
      have n1 : 2 + t * 2 ≠ 2 + r * 2 + 1 := by omega
      have n2 : 2 + t * 2 + 1 ≠ 2 + r * 2 := by omega
      have n3 : 2 + t * 2 + 1 ≠ 2 + r * 2 + 1 := by omega
      have n4 : 2 + r * 2 ≠ 2 + t * 2 := by omega
      have n5 : 2 + r * 2 + 1 ≠ 2 + t * 2 := by omega
      have n6 : 2 + r * 2 ≠ 2 + t * 2 + 1 := by omega
      have n7 : 2 + r * 2 + 1 ≠ 2 + t * 2 + 1 := by omega
      clear hown hgr ga
      generalize X (sg n t (t + 1)) = x at *
      generalize Y (sg n t (t + 1)) = y at *
      generalize X (sg n t (r + 1)) = u at *
      generalize Y (sg n t (r + 1)) = v at *
      have HE := Lib.hid er
      clear er
      go_wp2_with fail
      go_region
      all_goals (try go_wp2_with fail)
      all_goals (
        go_roundw
        case rel =>
          refine ⟨t + 1, by omega, by go_num, by have := HE.out; congr 1; omega, ?_, ?_⟩
          · first
            | exact HRX.out _ HOW.out
            | exact HRX.out wr.drew HOW.out
          · first
            | exact grown_set (grown_set (grown_set (grown_set HGR.out _ _) _ _) _ _) _ _
            | exact grown_set (grown_set (grown_set (grown_set (grown_drew HGR.out) _ _) _ _) _ _) _ _
        case measure => simp [intOf]; omega)
    · have HR := Lib.hid (show wr.ownsRow B 31 2 (.slice (some ⟨g, 0, none⟩) n cap) n (cellsI (prL X Y (rv n) n)) from by
        rw [pr_ext X Y (g := sg n t) (fun k hk => (sg_end hk (by omega) (by omega)).symm)]; exact hown)
      have HG := Lib.hid hgr
      clear hown hgr
      go_wp2_with fail
      go_end0
      exact ⟨rfl, HR.out, HG.out⟩
theorem nil_own2 (w : World) (B e : Nat) : w.ownsRow B e 2 (.slice none 0 0) 0 (cellsI []) := ⟨by simp [cellsI], .inl ⟨rfl, rfl⟩⟩
set_option maxRecDepth 100000 in
set_option maxHeartbeats 4000000 in
theorem turnedSector (d : Int) (zs : List Int) (A : Option Addr) (n c : Nat) (w : World) (hc : n ≤ c) (hn : n ≤ 1048576) (h1 : RdZ 2 w w.heap.size A n zs) :
    Calls Try.prog 24 #[.agg #[.int .i64 d, .slice A n c]] w fun e w' => ∃ v, e = .returned (.tuple #[.agg #[.int .i64 (tuD d zs n), v], .bool (seV d zs n)]) ∧ w'.ownsRow w.heap.size 31 2 v (tuN d zs n) (cellsI (tuV d zs n)) ∧ Below w.heap.size w w' := by
  have B0 := Lib.hid ((newS 42 #[.int .i64 d, .slice A n c] w).alloc (.cells #[.int .i64 0, .slice none 0 0] 42))
  have R0 := Lib.hid ((newS 42 #[.int .i64 d, .slice A n c] w).next 42 #[.int .i64 0, .slice none 0 0])
  rw [World.size_alloc] at R0
  have T0 := Lib.hid (fun W (hb : Below w.heap.size w W) => show Calls Try.prog 20 #[.agg #[.int .i64 d, .slice A n c]] W (fun e w' => e = .returned (.bool (seV d zs n)) ∧ Below W.heap.size W w') from sctc.isValidSector d zs A n c W hc (by omega) (h1.next hb))
  cases hq : seV d zs n
  · rw [hq] at T0
    have HE := Lib.hid (tu_no hq)
    clear hq h1
    go_enter Try.func24, Try.ntmps24
    go_wp2_with fail
    generalize (w.alloc (.cells #[.int .i64 d, .slice A n c] 42)).alloc (.cells #[.int .i64 0, .slice none 0 0] 42) = W0 at *
    refine (T0.out W0 B0.out.1).mono ?_
    rintro e V ⟨rfl, hb⟩
    have R1 := Lib.hid (R0.out.old hb)
    clear hb R0 B0 T0
    have r0 : V.cell? ⟨w.heap.size + 1, 0, none⟩ = some (.int .i64 0) := R1.out.cell 0
    have r1 : V.cell? ⟨w.heap.size + 1, 1, none⟩ = some (.slice none 0 0) := R1.out.cell 1
    have f0 := R1.out.frozen 0
    have f1 := R1.out.frozen 1
    have HR := Lib.hid ((R1.out.set 0 (.int .i64 0)).set 1 (.slice none 0 0))
    clear R1
    go_wp2_with fail
    have hl := HR.out.load Try.underlying42 rfl (by kernel_rfl)
    refine bodyPost_ret (v := .tuple #[.agg #[.int .i64 0, .slice none 0 0], .bool false]) ?_ rfl ⟨.slice none 0 0, by rw [HE.out.2.2], by rw [HE.out.1, HE.out.2.1]; exact nil_own2 _ _ _, HR.out.1⟩
    rw [results_cell_tmp rfl]
    simp [asAddr, Result.andThen, hl]
  rw [hq] at T0
  have HV := Lib.hid (tu_yes hq)
  obtain ⟨⟨h3, h8⟩, -⟩ := se_corner hq
  have C0 := Lib.hid (fun W (hb : Below w.heap.size w W) => cloneP zs A n c W (by omega) (h1.next hb))
  have HLZ := Lib.hid (pr_id h1.1)
  clear hq h1
  go_enter Try.func24, Try.ntmps24
  go_wp2_with fail
  generalize (w.alloc (.cells #[.int .i64 d, .slice A n c] 42)).alloc (.cells #[.int .i64 0, .slice none 0 0] 42) = W0 at *
  refine (T0.out W0 B0.out.1).mono ?_
  rintro e V ⟨rfl, hb⟩
  have R1 := Lib.hid (R0.out.old hb)
  have B1 := Lib.hid (B0.out.old hb)
  clear hb R0 B0 T0
  have b0 : V.cell? ⟨w.heap.size, 0, none⟩ = some (.int .i64 d) := B1.out.cell 0
  have b1 : V.cell? ⟨w.heap.size, 1, none⟩ = some (.slice A n c) := B1.out.cell 1
  go_wp2_with fail
  clear b0 b1
  refine (C0.out V B1.out.1).mono ?_
  rintro e V2 ⟨v, rfl, ho, hb⟩
  obtain ⟨g, cg, rfl, hgB, hgl, hcg⟩ := row_some2 ho (by omega)
  rw [← HLZ.out] at ho
  obtain ⟨m, hm⟩ : ∃ m, n = m + 1 := ⟨n - 1, by omega⟩
  obtain ⟨q, hq⟩ : ∃ q, cg = q + 1 := ⟨cg - 1, by omega⟩
  subst hm hq
  have HO := Lib.hid ho
  have R2 := Lib.hid (R1.out.old hb)
  have B2 := Lib.hid (B1.out.old hb)
  have LV := Lib.hid (show w.heap.size + 1 < V.heap.size from R1.out.2.2.1)
  have HGB := Lib.hid hgB
  have RT := Lib.hid (reverseTail (cX zs) (cY zs) V.heap.size g (m + 1) (q + 1) m q V2 h3 h8 rfl ho)
  have hmq : m ≤ q := by omega
  have hmq2 : (m : Int) ≤ (q : Int) := by omega
  have hq1 : ¬ q + 1 = 1 := by omega
  have hq0 : ¬ q = 0 := by omega
  clear ho hb R1 B1 C0 HLZ hgB hcg
  go_wp2_with fail
  refine RT.out.mono ?_
  rintro e V3 ⟨rfl, ho3, hg3⟩
  have HO3 := Lib.hid ho3
  have R3 := Lib.hid (at_gr R2.out hg3 (by have := LV.out; have := HGB.out; omega) (by have := LV.out; have := HGB.out; omega))
  have B3 := Lib.hid (at_gr B2.out hg3 (by have := LV.out; have := HGB.out; omega) (by have := LV.out; have := HGB.out; omega))
  clear ho3 hg3 RT R2 B2 HO
  have b0 : V3.cell? ⟨w.heap.size, 0, none⟩ = some (.int .i64 d) := B3.out.cell 0
  have r0 : V3.cell? ⟨w.heap.size + 1, 0, none⟩ = some (.int .i64 0) := R3.out.cell 0
  have r1 : V3.cell? ⟨w.heap.size + 1, 1, none⟩ = some (.slice none 0 0) := R3.out.cell 1
  have f0 := R3.out.frozen 0
  have f1 := R3.out.frozen 1
  have HR := Lib.hid ((R3.out.set 0 (.int .i64 d)).set 1 (.slice (some ⟨g, 0, none⟩) (m + 1) (q + 1)))
  have HOX := Lib.hid (own_kept (own_kept HO3.out (grown_set (grown_refl V3 (some (w.heap.size + 1))) 0 (.int .i64 d)) (fun g' e => by injection e with e; have := LV.out; omega)) (grown_set (grown_refl _ (some (w.heap.size + 1))) 1 (.slice (some ⟨g, 0, none⟩) (m + 1) (q + 1))) (fun g' e => by injection e with e; have := LV.out; omega))
  clear R3 B3 HO3
  go_wp2_with fail
  have hl := HR.out.load Try.underlying42 rfl (by kernel_rfl)
  refine bodyPost_ret (v := .tuple #[.agg #[.int .i64 d, .slice (some ⟨g, 0, none⟩) (m + 1) (q + 1)], .bool true]) ?_ rfl ⟨.slice (some ⟨g, 0, none⟩) (m + 1) (q + 1), by rw [HV.out.2.2], by rw [HV.out.1, HV.out.2.1]; exact own_.own_base HOX.out (by have := LV.out; omega), HR.out.1⟩
  rw [results_cell_tmp rfl]
  simp [asAddr, Result.andThen, hl]

set_option maxRecDepth 100000 in
set_option maxHeartbeats 2000000 in
theorem sameSector (d : Int) (zs : List Int) (e0 : Int) (us : List Int) (A B : Option Addr) (n c m q : Nat) (w : World) (hc : n ≤ c) (hn : n ≤ 1048576) (hq : m ≤ q) (hm : m ≤ 1048576) (h1 : RdZ 2 w w.heap.size A n zs) (h2 : RdZ 2 w w.heap.size B m us) :
    Calls Try.prog 26 #[.agg #[.int .i64 d, .slice A n c], .agg #[.int .i64 e0, .slice B m q]] w fun e w' => e = .returned (.tuple #[.bool (ssV d zs n e0 us m), .bool (ssB d zs n e0 us m)]) ∧ Below w.heap.size w w' := by
  have S0 := Lib.hid ((newS 42 #[.int .i64 d, .slice A n c] w).alloc (.cells #[.int .i64 e0, .slice B m q] 42))
  have S1 := Lib.hid ((newS 42 #[.int .i64 d, .slice A n c] w).next 42 #[.int .i64 e0, .slice B m q])
  rw [World.size_alloc] at S1
  have T0 := Lib.hid (fun W (hb : Below w.heap.size w W) => show Calls Try.prog 20 #[.agg #[.int .i64 d, .slice A n c]] W (fun e w' => e = .returned (.bool (seV d zs n)) ∧ Below W.heap.size W w') from sctc.isValidSector d zs A n c W hc (by omega) (h1.next hb))
  have T1 := Lib.hid (fun W (hb : Below w.heap.size w W) => show Calls Try.prog 20 #[.agg #[.int .i64 e0, .slice B m q]] W (fun e w' => e = .returned (.bool (seV e0 us m)) ∧ Below W.heap.size W w') from sctc.isValidSector e0 us B m q W hq (by omega) (h2.next hb))
  cases hq0 : seV d zs n
  · have HE := Lib.hid (show ssV d zs n e0 us m = false ∧ ssB d zs n e0 us m = false from And.intro (ssV_no (ss_no1 hq0)) (ss_no1 hq0))
    rw [hq0] at T0
    clear h1 h2 hq0
    go_enter Try.func26, Try.ntmps26
    go_wp2_with fail
    generalize ((w.alloc (.cells #[.int .i64 d, .slice A n c] 42)).alloc (.cells #[.int .i64 e0, .slice B m q] 42)) = W0 at *
    have AN0 := Lib.hid (Below.refl W0.heap.size W0)
    refine (T0.out W0 (S0.out.1.trans (AN0.out.mono S0.out.1.size))).mono ?_
    rintro e V1 ⟨rfl, hb1⟩
    have AN1 := Lib.hid (AN0.out.trans (hb1.mono AN0.out.size))
    clear hb1
    have BX := Lib.hid (S0.out.1.trans (AN1.out.mono S0.out.1.size))
    go_wp2_with fail
    go_ret2
    exact ⟨by rw [HE.out.1, HE.out.2]; rfl, BX.out⟩
  rw [hq0] at T0
  cases hq1 : seV e0 us m
  · have HE := Lib.hid (show ssV d zs n e0 us m = false ∧ ssB d zs n e0 us m = false from And.intro (ssV_no (ss_no2 hq1)) (ss_no2 hq1))
    rw [hq1] at T1
    clear h1 h2 hq0 hq1
    go_enter Try.func26, Try.ntmps26
    go_wp2_with fail
    generalize ((w.alloc (.cells #[.int .i64 d, .slice A n c] 42)).alloc (.cells #[.int .i64 e0, .slice B m q] 42)) = W0 at *
    have AN0 := Lib.hid (Below.refl W0.heap.size W0)
    refine (T0.out W0 (S0.out.1.trans (AN0.out.mono S0.out.1.size))).mono ?_
    rintro e V1 ⟨rfl, hb1⟩
    have AN1 := Lib.hid (AN0.out.trans (hb1.mono AN0.out.size))
    clear hb1
    have c00 : V1.cell? ⟨w.heap.size, 0, none⟩ = some (.int .i64 d) := (S0.out.old AN1.out).cell 0
    have c01 : V1.cell? ⟨w.heap.size, 1, none⟩ = some (.slice A n c) := (S0.out.old AN1.out).cell 1
    have c10 : V1.cell? ⟨w.heap.size + 1, 0, none⟩ = some (.int .i64 e0) := (S1.out.old AN1.out).cell 0
    have c11 : V1.cell? ⟨w.heap.size + 1, 1, none⟩ = some (.slice B m q) := (S1.out.old AN1.out).cell 1
    go_wp2_with fail
    clear c00 c01 c10 c11
    refine (T1.out V1 (S0.out.1.trans (AN1.out.mono S0.out.1.size))).mono ?_
    rintro e V2 ⟨rfl, hb2⟩
    have AN2 := Lib.hid (AN1.out.trans (hb2.mono AN1.out.size))
    clear hb2
    have BX := Lib.hid (S0.out.1.trans (AN2.out.mono S0.out.1.size))
    go_wp2_with fail
    go_ret2
    exact ⟨by rw [HE.out.1, HE.out.2]; rfl, BX.out⟩
  rw [hq1] at T1
  obtain ⟨⟨g3, g8⟩, -⟩ := se_corner hq0
  have HB := Lib.hid (ss_yes hq0 hq1)
  have HV := Lib.hid (ssV_yes HB.out)
  have CD := Lib.hid (fun W (hb : Below w.heap.size w W) => scty.haveSameOrder zs us A B n c m q W (by omega) (h1.next hb) (h2.next hb))
  clear hq0 hq1 h1 h2
  generalize saB (cX zs) (cY zs) n (cX us) (cY us) m = s at *
  go_enter Try.func26, Try.ntmps26
  go_wp2_with fail
  generalize ((w.alloc (.cells #[.int .i64 d, .slice A n c] 42)).alloc (.cells #[.int .i64 e0, .slice B m q] 42)) = W0 at *
  have AN0 := Lib.hid (Below.refl W0.heap.size W0)
  refine (T0.out W0 (S0.out.1.trans (AN0.out.mono S0.out.1.size))).mono ?_
  rintro e V1 ⟨rfl, hb1⟩
  have AN1 := Lib.hid (AN0.out.trans (hb1.mono AN0.out.size))
  clear hb1
  have c00 : V1.cell? ⟨w.heap.size, 0, none⟩ = some (.int .i64 d) := (S0.out.old AN1.out).cell 0
  have c01 : V1.cell? ⟨w.heap.size, 1, none⟩ = some (.slice A n c) := (S0.out.old AN1.out).cell 1
  have c10 : V1.cell? ⟨w.heap.size + 1, 0, none⟩ = some (.int .i64 e0) := (S1.out.old AN1.out).cell 0
  have c11 : V1.cell? ⟨w.heap.size + 1, 1, none⟩ = some (.slice B m q) := (S1.out.old AN1.out).cell 1
  go_wp2_with fail
  clear c00 c01 c10 c11
  refine (T1.out V1 (S0.out.1.trans (AN1.out.mono S0.out.1.size))).mono ?_
  rintro e V2 ⟨rfl, hb2⟩
  have AN2 := Lib.hid (AN1.out.trans (hb2.mono AN1.out.size))
  clear hb2
  have c00 : V2.cell? ⟨w.heap.size, 0, none⟩ = some (.int .i64 d) := (S0.out.old AN2.out).cell 0
  have c01 : V2.cell? ⟨w.heap.size, 1, none⟩ = some (.slice A n c) := (S0.out.old AN2.out).cell 1
  have c10 : V2.cell? ⟨w.heap.size + 1, 0, none⟩ = some (.int .i64 e0) := (S1.out.old AN2.out).cell 0
  have c11 : V2.cell? ⟨w.heap.size + 1, 1, none⟩ = some (.slice B m q) := (S1.out.old AN2.out).cell 1
  go_wp2_with fail
  clear c00 c01 c10 c11
  refine (CD.out V2 (S0.out.1.trans (AN2.out.mono S0.out.1.size))).mono ?_
  rintro e V3 ⟨rfl, hb3⟩
  have AN3 := Lib.hid (AN2.out.trans (hb3.mono AN2.out.size))
  clear hb3
  have BX := Lib.hid (S0.out.1.trans (AN3.out.mono S0.out.1.size))
  go_wp2_with fail
  go_ret2
  exact ⟨by rw [HV.out, HB.out]; rfl, BX.out⟩

end Go.Proofs.Ytkndfklbonkbiaa.sctg
