/- spec's l9Find, HeardFrom, TotalFrames. -/
import Derived.Test.YtdeghpihcddlgaaRcvA
namespace Go.Proofs.Ytdeghpihcddlgaa.rcvf
open Go.RowKit Go.Proofs.Ytdeghpihcddlgaa.rcv Go.Proofs.Ytdeghpihcddlgaa.rcvm Go.Proofs.Ytdeghpihcddlgaa.ats

theorem results_ct {fn : Func} {p u : Tmp} {ty : TypeId} (h : fn.results = #[.cell p ty, .tmp u]) (tmps : Array Value) (P : Program) (w : World) :
    (results fn tmps).run P w = ((asAddr (tmps.getD p undef)).run P w).andThen fun a w₁ => ((loadVar ty a).run P w₁).andThen fun v w₂ => .ok (.tuple #[v, tmps.getD u undef]) w₂ := by
  simp only [results, h]
  simp [Sem.run_bind, Result.andThen]

set_option maxRecDepth 100000 in
set_option maxHeartbeats 1000000 in
theorem find9 (m x : Int) (hs : List Hd) (A : Option Addr) (c : Nat) (w : World) (hn : hs.length ≤ 1048577) (h : RdH w w.heap.size A hs) :
    Calls Try.prog 99 #[.agg #[.int .i64 m, .slice A hs.length c], .int .i64 x] w fun e w' => e = .returned (.int .i64 (fiI hs x)) ∧ Below w.heap.size w w' := by
  have B0 := Lib.hid (newS 46 #[.int .i64 m, .slice A hs.length c] w)
  have HR := Lib.hid (fun (wr : World) (hb : Below w.heap.size w wr) => h.below hb (Nat.le_refl _))
  generalize hN : hs.length = n at *
  have HN := Lib.hid hN
  clear h hN
  go_enter Try.func99, Try.ntmps99
  go_wp2_with fail
  generalize w.alloc (.cells #[.int .i64 m, .slice A n c] 46) = W at *
  obtain ⟨b, o, hA, hc⟩ : ∃ b o, (0 < n → A = some ⟨b, o, none⟩) ∧ ∀ k, k < n → W.cell? ⟨b, o + k * 10, none⟩ = some (.int .i64 (hx hs k).ad) := by
    rcases Nat.eq_zero_or_pos n with h0 | h0
    · exact ⟨0, 0, fun h => by omega, fun k hk => by omega⟩
    · obtain ⟨b, o, e, _, _⟩ := (HR.out W B0.out.1).cells (k := 0) (by rw [HN.out]; exact h0)
      refine ⟨b, o, fun _ => e, fun k hk => ?_⟩
      obtain ⟨b', o', e', _, c0, _⟩ := (HR.out W B0.out.1).cells (k := k) (by rw [HN.out]; exact hk)
      rw [e] at e'
      injection e' with e'
      injection e' with e1 e2
      rw [e1, e2]; exact c0
  have HC := Lib.hid hc
  have HA := Lib.hid hA
  clear hA hc HR
  go_loop [5] (fun i => ∃ k : Nat, k ≤ n ∧ i = .int .i64 k ∧ ∀ j, j < k → (hx hs j).ad ≠ x) (fun i => n - (intOf i).toNat)
  case atStart => exact ⟨0, Nat.zero_le _, rfl, fun _ h => absurd h (Nat.not_lt_zero _)⟩
  case round =>
    obtain ⟨k, hk, rfl, hb⟩ := hrel
    have HB := Lib.hid hb
    clear hb
    have a1 : W.cell? ⟨w.heap.size, 1, none⟩ = some (.slice A n c) := B0.out.cell 1
    by_cases hlt : k < n
    · obtain rfl := HA.out (by omega)
      have c0 := HC.out k hlt
      have hlt2 : (k : Int) < (n : Int) := by omega
      by_cases he : (hx hs k).ad = x
      · have HF := Lib.hid (show fiI hs x = (k : Int) by unfold fiI; rw [fi_of (by rw [HN.out]; exact hlt) he HB.out, if_pos (by rw [HN.out]; exact hlt)])
        have ge : ((hx hs k).ad == x) = true := by simpa using he
        clear he
        generalize (hx hs k).ad = y at *
        go_wp2_with fail
        go_ret
        exact ⟨by rw [HF.out]; rfl, B0.out.1⟩
      · have HE := Lib.hid he
        have ge : ((hx hs k).ad == x) = false := by simpa using he
        clear he
        go_wp2_with fail
        go_round
        case rel => exact ⟨k + 1, by omega, by go_num, fun j hj => by
          rcases Nat.lt_or_ge j k with h | h
          · exact HB.out j h
          · obtain rfl : j = k := by omega
            exact HE.out⟩
        case measure => simp [intOf]; omega
    · obtain rfl : k = n := by omega
      have HF := Lib.hid (show fiI hs x = -1 by unfold fiI; rw [fi_none (by rw [HN.out]; exact HB.out), if_neg (Nat.lt_irrefl _)])
      go_wp2_with fail
      go_ret
      exact ⟨by rw [HF.out]; rfl, B0.out.1⟩

set_option maxRecDepth 100000 in
set_option maxHeartbeats 2000000 in
theorem heardFrom (m : Int) (hs : List Hd) (x : Int) (A : Option Addr) (c : Nat) (w : World) (hn : hs.length ≤ 1048577) (h : RdH w w.heap.size A hs) :
    Calls Try.prog 38 #[.agg #[.int .i64 m, .slice A hs.length c], .int .i64 x] w fun e w' => e = .returned (.tuple #[.agg #[.int .i64 (hfH m hs x).ad, .bool (hfH m hs x).eo, .int .i64 (hfH m hs x).ea, .int .i64 (hfH m hs x).eb, .int .i64 (hfH m hs x).et, .bool (hfH m hs x).oo, .int .i64 (hfH m hs x).oa, .int .i64 (hfH m hs x).ob, .int .i64 (hfH m hs x).ot, .int .i64 (hfH m hs x).fr], .bool (hfB m hs x)]) ∧ Below w.heap.size w w' := by
  have B0 := Lib.hid ((newS 46 #[.int .i64 m, .slice A hs.length c] w).alloc (.cells #[.int .i64 0, .bool false, .int .i64 0, .int .i64 0, .int .i64 0, .bool false, .int .i64 0, .int .i64 0, .int .i64 0, .int .i64 0] 54))
  have C0 := Lib.hid ((newS 46 #[.int .i64 m, .slice A hs.length c] w).next 54 #[.int .i64 0, .bool false, .int .i64 0, .int .i64 0, .int .i64 0, .bool false, .int .i64 0, .int .i64 0, .int .i64 0, .int .i64 0])
  rw [World.size_alloc] at C0
  have HR := Lib.hid (fun (wr : World) (hb : Below w.heap.size w wr) => h.next hb)
  have FD := Lib.hid (fun W (hb : Below w.heap.size w W) => find9 m x hs A c W hn (h.next hb))
  have GD := Lib.hid (fun W (hb : Below w.heap.size w W) => rcva.good9 m hs A c W hn (h.next hb))
  have fin := fi_in hs x
  have KN := Lib.hid (fun (h : known hs x = true) => fi_known h)
  have UN := Lib.hid (fun (hv : vB m hs = true) (h : known hs x = false) => fi_unknown hv h)
  have KI := Lib.hid (fun (h : known hs x = true) => (known_iff.1 h).1)
  generalize hi : fiI hs x = i at *
  clear hi
  generalize hN : hs.length = n at *
  have HN := Lib.hid hN
  clear h hN
  go_enter Try.func38, Try.ntmps38
  go_wp2_with fail
  refine (FD.out _ B0.out.1).mono ?_
  rintro e V2 ⟨rfl, hb2⟩
  have B2 := Lib.hid (B0.out.old hb2)
  have C2 := Lib.hid (C0.out.old hb2)
  clear B0 C0 hb2 FD
  have a0 : V2.cell? ⟨w.heap.size, 0, none⟩ = some (.int .i64 m) := B2.out.cell 0
  have a1 : V2.cell? ⟨w.heap.size, 1, none⟩ = some (.slice A n c) := B2.out.cell 1
  go_wp2_with fail
  refine (GD.out _ B2.out.1).mono ?_
  rintro e V3 ⟨rfl, hb3⟩
  have B3 := Lib.hid (B2.out.old hb3)
  have C3 := Lib.hid (C2.out.old hb3)
  clear B2 C2 hb3 GD a0 a1
  obtain ⟨f0, f1, f2, f3, f4, f5, f6, f7, f8, f9⟩ := ten C3.out
  obtain ⟨g0, g1, g2, g3, g4, g5, g6, g7, g8, g9⟩ := tenF C3.out
  have CZ := Lib.hid (at_all C3.out (.int .i64 0) (.bool false) (.int .i64 0) (.int .i64 0) (.int .i64 0) (.bool false) (.int .i64 0) (.int .i64 0) (.int .i64 0) (.int .i64 0))
  cases hv : vB m hs
  · have HF := Lib.hid (hf_bad (x := x) hv)
    clear hv KN UN KI
    go_wp2_with fail
    have hl := CZ.out.load Try.underlying54 rfl (by kernel_rfl)
    refine bodyPost_ret (v := .tuple #[.agg #[.int .i64 0, .bool false, .int .i64 0, .int .i64 0, .int .i64 0, .bool false, .int .i64 0, .int .i64 0, .int .i64 0, .int .i64 0], .bool false]) ?_ rfl ⟨by rw [HF.out.1, HF.out.2]; rfl, CZ.out.1⟩
    rw [results_ct rfl]
    simp [asAddr, Result.andThen, hl]
  · cases hk : known hs x
    · have HF := Lib.hid (hf_no (m := m) hk)
      obtain rfl := UN.out hv hk
      clear hv hk KN UN KI
      go_wp2_with fail
      have hl := CZ.out.load Try.underlying54 rfl (by kernel_rfl)
      refine bodyPost_ret (v := .tuple #[.agg #[.int .i64 0, .bool false, .int .i64 0, .int .i64 0, .int .i64 0, .bool false, .int .i64 0, .int .i64 0, .int .i64 0, .int .i64 0], .bool false]) ?_ rfl ⟨by rw [HF.out.1, HF.out.2]; rfl, CZ.out.1⟩
      rw [results_ct rfl]
      simp [asAddr, Result.andThen, hl]
    · have HF := Lib.hid (hf_yes hv hk)
      obtain rfl := KN.out hk
      have hlt := KI.out hk
      clear hv hk KN UN KI fin
      generalize lead hs x = k at *
      have gi : decide ((k : Int) < 0) = false := decide_eq_false (by omega)
      have hlt2 : (k : Int) < (n : Int) := by omega
      have a1 : V3.cell? ⟨w.heap.size, 1, none⟩ = some (.slice A n c) := B3.out.cell 1
      obtain ⟨b, o, rfl, hbl, c0, c1, c2, c3, c4, c5, c6, c7, c8, c9⟩ := (HR.out V3 B3.out.1).cells (k := k) (by rw [HN.out]; exact hlt)
      generalize hx hs k = z at *
      have HE := Lib.hid (at_all C3.out (.int .i64 z.ad) (.bool z.eo) (.int .i64 z.ea) (.int .i64 z.eb) (.int .i64 z.et) (.bool z.oo) (.int .i64 z.oa) (.int .i64 z.ob) (.int .i64 z.ot) (.int .i64 z.fr))
      clear CZ C3 B3 HR
      go_wp2_with fail
      have hl := HE.out.load Try.underlying54 rfl (by kernel_rfl)
      refine bodyPost_ret (v := .tuple #[.agg #[.int .i64 z.ad, .bool z.eo, .int .i64 z.ea, .int .i64 z.eb, .int .i64 z.et, .bool z.oo, .int .i64 z.oa, .int .i64 z.ob, .int .i64 z.ot, .int .i64 z.fr], .bool true]) ?_ rfl ⟨by rw [HF.out.1, HF.out.2], HE.out.1⟩
      rw [results_ct rfl]
      simp [asAddr, Result.andThen, hl]

set_option maxRecDepth 100000 in
set_option maxHeartbeats 2000000 in
theorem totalFrames (m : Int) (hs : List Hd) (A : Option Addr) (c : Nat) (w : World) (hn : hs.length ≤ 1048577) (h : RdH w w.heap.size A hs) :
    Calls Try.prog 55 #[.agg #[.int .i64 m, .slice A hs.length c]] w fun e w' => e = .returned (.tuple #[.int .i64 (tfV m hs), .bool (vB m hs)]) ∧ Below w.heap.size w w' := by
  have B0 := Lib.hid (newS 46 #[.int .i64 m, .slice A hs.length c] w)
  have HR := Lib.hid (fun (wr : World) (hb : Below w.heap.size w wr) => h.below hb (Nat.le_refl _))
  have GD := Lib.hid (fun W (hb : Below w.heap.size w W) => rcva.good9 m hs A c W hn (h.next hb))
  cases hv : vB m hs
  · have HT := Lib.hid (show tfV m hs = 0 by unfold tfV; rw [hv]; rfl)
    simp only [hv] at GD
    generalize hs.length = n at *
    clear h hv HR
    go_enter Try.func55, Try.ntmps55
    go_wp2_with fail
    refine (GD.out _ B0.out.1).mono ?_
    rintro e V2 ⟨rfl, hb2⟩
    have B2 := Lib.hid (B0.out.old hb2)
    go_wp2_with fail
    go_ret2
    exact ⟨by rw [HT.out]; rfl, B2.out.1⟩
  · have HT := Lib.hid (show tfV m hs = sumF hs by unfold tfV; rw [hv]; rfl)
    have SI := Lib.hid (fun k (hk : k ≤ hs.length) => sum_in hv k hk)
    have SS := Lib.hid (fun k (hk : k < hs.length) => sum_step hk)
    have FR := Lib.hid (fun k (hk : k < hs.length) => (one_parts (v_one hv hk)).2.1)
    have H6 := Lib.hid (v_parts hv).2.1
    have S0 := Lib.hid (show sumF (hs.take 0) = 0 by simp [sumF])
    have SA := Lib.hid (show sumF (hs.take hs.length) = sumF hs by rw [List.take_length])
    simp only [hv] at GD
    generalize hN : hs.length = n at *
    have HN := Lib.hid hN
    clear h hv hN
    go_enter Try.func55, Try.ntmps55
    go_wp2_with fail
    refine (GD.out _ B0.out.1).mono ?_
    rintro e W ⟨rfl, hb2⟩
    have B2 := Lib.hid (B0.out.old hb2)
    clear B0 hb2 GD
    obtain ⟨b, o, hA, hc⟩ : ∃ b o, (0 < n → A = some ⟨b, o, none⟩) ∧ ∀ k, k < n → W.cell? ⟨b, o + k * 10 + 9, none⟩ = some (.int .i64 (hx hs k).fr) := by
      rcases Nat.eq_zero_or_pos n with h0 | h0
      · exact ⟨0, 0, fun h => by omega, fun k hk => by omega⟩
      · obtain ⟨b, o, e, _, _⟩ := (HR.out W B2.out.1).cells (k := 0) (by rw [HN.out]; exact h0)
        refine ⟨b, o, fun _ => e, fun k hk => ?_⟩
        obtain ⟨b', o', e', _, _, _, _, _, _, _, _, _, _, c9⟩ := (HR.out W B2.out.1).cells (k := k) (by rw [HN.out]; exact hk)
        rw [e] at e'
        injection e' with e'
        injection e' with e1 e2
        rw [e1, e2]; exact c9
    have HC := Lib.hid hc
    have HA := Lib.hid hA
    clear hA hc HR
    go_wp2_with fail
    go_loop [4, 5] (fun q i => ∃ k : Nat, k ≤ n ∧ i = .int .i64 k ∧ q = .int .i64 (sumF (hs.take k))) (fun _ i => n - (intOf i).toNat)
    case atStart => exact ⟨0, Nat.zero_le _, rfl, by rw [S0.out]⟩
    case round =>
      obtain ⟨k, hk, rfl, rfl⟩ := hrel
      have a1 : W.cell? ⟨w.heap.size, 1, none⟩ = some (.slice A n c) := B2.out.cell 1
      by_cases hlt : k < n
      · obtain rfl := HA.out (by omega)
        have c9 := HC.out k hlt
        have hlt2 : (k : Int) < (n : Int) := by omega
        obtain ⟨i0, i1⟩ := SI.out k hk
        obtain ⟨j0, j1⟩ := FR.out k hlt
        have h6 := H6.out
        have HS := Lib.hid (SS.out k hlt)
        generalize sumF (hs.take k) = s at *
        generalize (hx hs k).fr = f at *
        go_wp2_with fail
        go_round
        case rel => exact ⟨k + 1, by omega, by go_num, by rw [HS.out]⟩
        case measure => simp [intOf]; omega
      · obtain rfl : k = n := by omega
        have HS := Lib.hid (show sumF (hs.take k) = tfV m hs by rw [SA.out, HT.out])
        generalize sumF (hs.take k) = s at *
        go_wp2_with fail
        go_ret2
        exact ⟨by rw [HS.out]; rfl, B2.out.1⟩
end Go.Proofs.Ytdeghpihcddlgaa.rcvf
