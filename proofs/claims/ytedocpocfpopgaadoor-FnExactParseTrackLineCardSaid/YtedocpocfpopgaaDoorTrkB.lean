/- spec's ParseTrackLine. -/
import Derived.Test.YtedocpocfpopgaaDoorTrkA
import Derived.Test.YtedocpocfpopgaaDoorTrkQ
import Derived.Test.YtedocpocfpopgaaDoorTailH
namespace Go.Proofs.YtedocpocfpopgaaDoor.trkb
open Go.RowKit Go.Proofs.YtedocpocfpopgaaDoor.num Go.Proofs.YtedocpocfpopgaaDoor.read Go.Proofs.YtedocpocfpopgaaDoor.ats Go.Proofs.YtedocpocfpopgaaDoor.split_ Go.Proofs.YtedocpocfpopgaaDoor.pos Go.Proofs.YtedocpocfpopgaaDoor.trk Go.Proofs.YtedocpocfpopgaaDoor.trkm Go.Proofs.YtedocpocfpopgaaDoor.trkp Go.Proofs.YtedocpocfpopgaaDoor.trkq Go.Proofs.YtedocpocfpopgaaDoor.trkr Go.Proofs.YtedocpocfpopgaaDoor.trka Go.Proofs.YtedocpocfpopgaaDoor.tailh

theorem l1Read (s : ByteArray) (w : World) :
    Calls Tryd.prog 46 #[.string s] w fun e w' => e = .returned (.tuple #[.int .i64 (rdN s), .bool (rdB s)]) ∧ Below w.heap.size w w' := by
  have h : Calls Tryd.prog 46 #[.string s] w fun e w' => e = .returned (.tuple #[.int .i64 (rdN s), .bool (rdB s)]) ∧ ∃ j, w' = w.drewN j := by
    rcases Nat.lt_or_ge 1 s.size with h1 | h1
    · cases h : ((s[0].toNat : Int) == 45)
      · exact spec_pos s w (.inr ⟨by omega, h⟩)
      · exact spec_neg s w h1 h
    · exact spec_pos s w (.inl h1)
  exact h.mono fun _ _ ⟨a, j, b⟩ => ⟨a, b ▸ aid.below_drewN (Below.refl _ _) j⟩
theorem two {xs : List ByteArray} (h : xs.length = 2) : ∃ a b, xs = [a, b] := by
  match xs, h with
  | [a, b], _ => exact ⟨a, b, rfl⟩
theorem eight {xs : List ByteArray} (h : xs.length = 8) : ∃ a b c d e f g k, xs = [a, b, c, d, e, f, g, k] := by
  match xs, h with
  | [a, b, c, d, e, f, g, k], _ => exact ⟨a, b, c, d, e, f, g, k, rfl⟩
theorem str_eq_no {x y : ByteArray} (h : x ≠ y) : (x.toList == y.toList) = false := by
  rw [beq_eq_false_iff_ne, Lib.toList_data, Lib.toList_data]
  exact fun e => h (aid.str_ext e)
theorem str_eq_yes (x : ByteArray) : (x.toList == x.toList) = true := by simp
/-- The state whose word is x, or 0. -/
def ix4 (x : ByteArray) : Nat := if x = wd 1 then 1 else if x = wd 2 then 2 else if x = wd 3 then 3 else 0
theorem ix4_le (x : ByteArray) : ix4 x ≤ 3 := by
  unfold ix4
  split
  · omega
  · split
    · omega
    · split <;> omega
theorem ix4_wd {k : Nat} (h1 : 1 ≤ k) (h4 : k < 4) : ix4 (wd k) = k := by
  match k, h1, h4 with
  | 1, _, _ => rfl
  | 2, _, _ => rfl
  | 3, _, _ => rfl
theorem ix4_no {x : ByteArray} (h : ∀ k, 1 ≤ k → k < 4 → wd k ≠ x) : ix4 x = 0 := by
  unfold ix4
  rw [if_neg (fun e => h 1 (by omega) (by omega) e.symm), if_neg (fun e => h 2 (by omega) (by omega) e.symm), if_neg (fun e => h 3 (by omega) (by omega) e.symm)]
theorem index4 (B : Nat) (x : ByteArray) (w : World) (h : Wd w B) :
    Calls Tryd.prog 47 #[.slice (some ⟨B, 0, none⟩) 4 4, .string x] w fun e w' => e = .returned (.int .i64 ((ix4 x : Nat) : Int)) ∧ w' = w := by
  have H := Lib.hid h.2
  clear h
  go_enter Tryd.func47, Tryd.ntmps47
  go_wp2_with fail
  go_loop [5] (fun i => ∃ k : Nat, 1 ≤ k ∧ k ≤ 4 ∧ i = .int .i64 k ∧ ∀ j, 1 ≤ j → j < k → wd j ≠ x) (fun i => 4 - (intOf i).toNat)
  case atStart => exact ⟨1, by omega, by omega, rfl, fun j h1 h2 => absurd h2 (by omega)⟩
  case round =>
    obtain ⟨k, hk1, hk, rfl, hno⟩ := hrel
    have HO := Lib.hid hno
    clear hno
    by_cases hlt : k < 4
    · have hc := H.out k hlt
      have hlt2 : (k : Int) < 4 := by omega
      by_cases he : wd k = x
      · rw [he] at hc
        have HR := Lib.hid (show Ending.returned (.int .i64 (k : Int)) = .returned (.int .i64 ((ix4 x : Nat) : Int)) by rw [← he, ix4_wd hk1 hlt])
        have hs := str_eq_yes x
        clear he
        go_wp2_with fail
        go_ret
        exact ⟨HR.out, rfl⟩
      · have hs := str_eq_no he
        have HS := Lib.hid (show ∀ j, 1 ≤ j → j < k + 1 → wd j ≠ x from fun j h1 h2 => by
          by_cases hjk : j < k
          · exact HO.out j h1 hjk
          · obtain rfl : j = k := by omega
            exact he)
        clear he
        generalize wd k = y at *
        go_wp2_with fail
        go_round
        case rel => exact ⟨k + 1, by omega, by omega, by go_num, HS.out⟩
        case measure => simp [intOf]; omega
    · obtain rfl : k = 4 := by omega
      have HR := Lib.hid (show Ending.returned (.int .i64 0) = .returned (.int .i64 ((ix4 x : Nat) : Int)) by rw [ix4_no HO.out]; rfl)
      go_wp2_with fail
      go_ret
      exact ⟨HR.out, rfl⟩

/-- The words of a text that is a track's line. -/
theorem sp1 {t : ByteArray} {xs : List ByteArray} (h : ptB t = true) (hx : xs.map (·.data.toList) = pieces 32 t.data.toList []) :
    (rL t = 0 ∧ xs.map (·.data.toList) = six6 (rI t) (rS t).toNat (rX t) (rY t) (rH t)) ∨ (rL t ≠ 0 ∧ xs.map (·.data.toList) = six6 (rI t) (rS t).toNat (rX t) (rY t) (rH t) ++ [[108, 111, 115, 116], (txt (rL t)).data.toList]) := by
  obtain ⟨hv, ht⟩ := pt_yes h
  obtain ⟨hi, hp, hh, hl, -, -⟩ := tkB_yes hv
  obtain ⟨hxx, hyy⟩ := pB_yes hp
  by_cases hz : rL t = 0
  · left
    refine ⟨hz, ?_⟩
    rw [tl_zero hz] at ht
    have := words_hd (i := rI t) (x := rX t) (y := rY t) (h := rH t) (k := (rS t).toNat) (by omega) (by omega) (by omega) (by omega)
    rw [ht] at this
    rw [hx, this]
  · right
    refine ⟨hz, ?_⟩
    rw [tl_lost hz] at ht
    have := words_tl (i := rI t) (x := rX t) (y := rY t) (h := rH t) (l := rL t) (k := (rS t).toNat) (by omega) (by omega) (by omega) (by omega) (by omega)
    rw [ht] at this
    rw [hx, this]
theorem sp_len {t : ByteArray} {xs : List ByteArray} (h : ptB t = true) (hx : xs.map (·.data.toList) = pieces 32 t.data.toList []) : xs.length = 6 ∨ xs.length = 8 := by
  rcases sp1 h hx with ⟨_, e⟩ | ⟨_, e⟩
  · left
    have := congrArg List.length e
    rw [List.length_map] at this
    exact this
  · right
    have := congrArg List.length e
    rw [List.length_map] at this
    exact this
theorem core {t x0 x1 x3 x5 : ByteArray} (h : ptB t = true) (e0 : x0.data.toList = (txt (rI t)).data.toList) (e1 : x1.data.toList = (wd (rS t).toNat).data.toList) (e3 : x3.data.toList = (txt (rX t) ++ ⟨#[44]⟩ ++ txt (rY t) : ByteArray).data.toList) (e5 : x5.data.toList = (txt (rH t)).data.toList) :
    (rdB x0 = true ∧ rdN x0 = rI t) ∧ ((ix4 x1 : Nat) : Int) = rS t ∧ (rdB x5 = true ∧ rdN x5 = rH t) ∧ (∀ ys : List ByteArray, ys.map (·.data.toList) = pieces 44 x3.data.toList [] → ys.length = 2) ∧ (∀ y0 y1 : ByteArray, [y0, y1].map (·.data.toList) = pieces 44 x3.data.toList [] → (rdB y0 = true ∧ rdN y0 = rX t) ∧ rdB y1 = true ∧ rdN y1 = rY t) := by
  obtain ⟨hv, -⟩ := pt_yes h
  obtain ⟨hi, hp, hh, hl, hs0, hs⟩ := tkB_yes hv
  obtain ⟨hxx, hyy⟩ := pB_yes hp
  have hs3 : 0 ≤ rS t ∧ rS t ≤ 3 := by
    rw [hs]; unfold sw
    split <;> split <;> omega
  rw [aid.str_ext e0, aid.str_ext e1, aid.str_ext e5, e3, comma hxx.1 hyy.1]
  refine ⟨hgtt.rdN_txt (by omega) (by omega), ?_, hgtt.rdN_txt (by omega) (by omega), fun ys hy => ?_, fun y0 y1 hy => ?_⟩
  · rw [ix4_wd (by omega) (by omega)]; omega
  · have := congrArg List.length hy
    rw [List.length_map] at this
    exact this
  · simp only [List.map_cons, List.map_nil, List.cons.injEq, and_true] at hy
    rw [aid.str_ext hy.1, aid.str_ext hy.2]
    exact ⟨hgtt.rdN_txt (by omega) (by omega), hgtt.rdN_txt (by omega) (by omega)⟩
theorem of6 {t x0 x1 x2 x3 x4 x5 : ByteArray} (h : ptB t = true) (hx : [x0, x1, x2, x3, x4, x5].map (·.data.toList) = pieces 32 t.data.toList []) : rL t = 0 ∧ x0.data.toList = (txt (rI t)).data.toList ∧ x1.data.toList = (wd (rS t).toNat).data.toList ∧ x3.data.toList = (txt (rX t) ++ ⟨#[44]⟩ ++ txt (rY t) : ByteArray).data.toList ∧ x5.data.toList = (txt (rH t)).data.toList := by
  rcases sp1 h hx with ⟨hz, e⟩ | ⟨_, e⟩
  · simp only [six6, List.map_cons, List.map_nil, List.cons.injEq, and_true] at e
    exact ⟨hz, e.1, e.2.1, e.2.2.2.1, e.2.2.2.2.2⟩
  · have := congrArg List.length e
    simp [six6] at this
theorem of8 {t x0 x1 x2 x3 x4 x5 x6 x7 : ByteArray} (h : ptB t = true) (hx : [x0, x1, x2, x3, x4, x5, x6, x7].map (·.data.toList) = pieces 32 t.data.toList []) : (rdB x7 = true ∧ rdN x7 = rL t) ∧ x0.data.toList = (txt (rI t)).data.toList ∧ x1.data.toList = (wd (rS t).toNat).data.toList ∧ x3.data.toList = (txt (rX t) ++ ⟨#[44]⟩ ++ txt (rY t) : ByteArray).data.toList ∧ x5.data.toList = (txt (rH t)).data.toList := by
  obtain ⟨hv, -⟩ := pt_yes h
  obtain ⟨hi, hp, hh, hl, -, -⟩ := tkB_yes hv
  rcases sp1 h hx with ⟨_, e⟩ | ⟨hz, e⟩
  · have := congrArg List.length e
    simp [six6] at this
  · simp only [six6, List.map_cons, List.map_nil, List.cons_append, List.nil_append, List.cons.injEq, and_true] at e
    refine ⟨?_, e.1, e.2.1, e.2.2.2.1, e.2.2.2.2.2.1⟩
    rw [aid.str_ext e.2.2.2.2.2.2.2]
    exact hgtt.rdN_txt (by omega) (by omega)
theorem xs_size {b : UInt8} {s : ByteArray} {xs : List ByteArray} (h : xs.map (·.data.toList) = pieces b s.data.toList []) {x : ByteArray} (hx : x ∈ xs) : x.size ≤ s.size := by
  have hm : x.data.toList ∈ pieces b s.data.toList [] := by rw [← h]; exact List.mem_map.2 ⟨x, hx, rfl⟩
  have := pieces_size b _ _ _ hm
  rw [ptx.len_list, ptx.len_list] at this
  simpa using this
theorem str_of {x y : ByteArray} (h : (x.toList == y.toList) = true) : x = y := by
  rw [beq_iff_eq, Lib.toList_data, Lib.toList_data] at h
  exact aid.str_ext h

set_option maxRecDepth 100000 in
set_option maxHeartbeats 64000000 in
theorem parseTrackLineS (t : ByteArray) (w : World) (hs : t.size ≤ 1048576) :
    Calls Tryd.prog 17 #[.string t] w fun e w' => e = .returned (.tuple #[.agg #[.int .i64 (pI t), .int .i64 (pS t), .int .i64 (pX t), .int .i64 (pY t), .int .i64 (pH t), .int .i64 (pL t)], .bool (ptB t)]) ∧ Below w.heap.size w w' := by
  have HNo := Lib.hid (fun (h : ptB t = false) => show pI t = 0 ∧ pS t = 0 ∧ pX t = 0 ∧ pY t = 0 ∧ pH t = 0 ∧ pL t = 0 ∧ ptB t = false from ⟨(p_no h).1, (p_no h).2.1, (p_no h).2.2.1, (p_no h).2.2.2.1, (p_no h).2.2.2.2.1, (p_no h).2.2.2.2.2, h⟩)
  have HYe := Lib.hid (fun i s x y h l (hv : tkB i s x y h l = true) (ht : tlT i s x y h l = t) => show pI t = i ∧ pS t = s ∧ pX t = x ∧ pY t = y ∧ pH t = h ∧ pL t = l ∧ ptB t = true from by
    obtain ⟨h0, h1, h2, h3, h4, h5, h6⟩ := pt_text hv ht
    obtain ⟨g1, g2, g3, g4, g5, g6⟩ := p_yes h0
    exact ⟨g1.trans h1, g2.trans h2, g3.trans h3, g4.trans h4, g5.trans h5, g6.trans h6, h0⟩)
  have HS := Lib.hid (fun w => l1Split t 32 w hs)
  have Z0 := Lib.hid ((newS 38 #[.int .i64 0, .int .i64 0, .int .i64 0, .int .i64 0, .int .i64 0, .int .i64 0] w).alloc (.cells #[.int .i64 0, .int .i64 0, .int .i64 0, .int .i64 0, .int .i64 0, .int .i64 0] 38))
  have V0 := (newS 38 #[.int .i64 0, .int .i64 0, .int .i64 0, .int .i64 0, .int .i64 0, .int .i64 0] w).next 38 #[.int .i64 0, .int .i64 0, .int .i64 0, .int .i64 0, .int .i64 0, .int .i64 0]
  rw [World.size_alloc] at V0
  have V0 := Lib.hid V0
  have hsi : (t.size : Int) ≤ 1048576 := by omega
  go_enter Tryd.func17, Tryd.ntmps17
  go_wp2_with fail
  generalize (w.alloc (.cells #[.int .i64 0, .int .i64 0, .int .i64 0, .int .i64 0, .int .i64 0, .int .i64 0] 38)).alloc (.cells #[.int .i64 0, .int .i64 0, .int .i64 0, .int .i64 0, .int .i64 0, .int .i64 0] 38) = W at *
  refine (HS.out _).mono ?_
  rintro e w1 ⟨v, xs, rfl, hown, hb1, hpc⟩
  have ZQ := Lib.hid (Z0.out.old hb1)
  have NQ := Lib.hid (V0.out.old hb1)
  have HPC := Lib.hid hpc
  have hsz : ∀ t' ∈ xs, t'.size ≤ 1048576 := fun t' ht => Nat.le_trans (xs_size hpc ht) hs
  obtain ⟨A, c, rfl⟩ := own_strs hown
  clear hb1 Z0 V0 HS hpc
  by_cases h60 : t.size ≤ 60
  rotate_left
  · have q1 : decide ((60 : Int) < (t.size : Int)) = true := decide_eq_true (by omega)
    have HN := Lib.hid (HNo.out (Bool.eq_false_iff.2 (fun hp => absurd (pt_size hp) h60)))
    have n0 : w1.cell? ⟨(w.heap.size + 1), 0, none⟩ = some (.int .i64 0) := NQ.out.cell 0
    have n1 : w1.cell? ⟨(w.heap.size + 1), 1, none⟩ = some (.int .i64 0) := NQ.out.cell 1
    have n2 : w1.cell? ⟨(w.heap.size + 1), 2, none⟩ = some (.int .i64 0) := NQ.out.cell 2
    have n3 : w1.cell? ⟨(w.heap.size + 1), 3, none⟩ = some (.int .i64 0) := NQ.out.cell 3
    have n4 : w1.cell? ⟨(w.heap.size + 1), 4, none⟩ = some (.int .i64 0) := NQ.out.cell 4
    have n5 : w1.cell? ⟨(w.heap.size + 1), 5, none⟩ = some (.int .i64 0) := NQ.out.cell 5
    have z0 : w1.cell? ⟨w.heap.size, 0, none⟩ = some (.int .i64 0) := ZQ.out.cell 0
    have zf0 := ZQ.out.frozen 0
    have z1 : w1.cell? ⟨w.heap.size, 1, none⟩ = some (.int .i64 0) := ZQ.out.cell 1
    have zf1 := ZQ.out.frozen 1
    have z2 : w1.cell? ⟨w.heap.size, 2, none⟩ = some (.int .i64 0) := ZQ.out.cell 2
    have zf2 := ZQ.out.frozen 2
    have z3 : w1.cell? ⟨w.heap.size, 3, none⟩ = some (.int .i64 0) := ZQ.out.cell 3
    have zf3 := ZQ.out.frozen 3
    have z4 : w1.cell? ⟨w.heap.size, 4, none⟩ = some (.int .i64 0) := ZQ.out.cell 4
    have zf4 := ZQ.out.frozen 4
    have z5 : w1.cell? ⟨w.heap.size, 5, none⟩ = some (.int .i64 0) := ZQ.out.cell 5
    have zf5 := ZQ.out.frozen 5
    have HE := Lib.hid ((((((ZQ.out.set 0 (.int .i64 0)).set 1 (.int .i64 0)).set 2 (.int .i64 0)).set 3 (.int .i64 0)).set 4 (.int .i64 0)).set 5 (.int .i64 0))
    go_wp2_with fail
    have hl := HE.out.load Tryd.underlying38 rfl (by kernel_rfl)
    refine bodyPost_ret (v := .tuple #[.agg #[.int .i64 0, .int .i64 0, .int .i64 0, .int .i64 0, .int .i64 0, .int .i64 0], .bool false]) ?_ rfl ⟨by rw [HN.out.1, HN.out.2.1, HN.out.2.2.1, HN.out.2.2.2.1, HN.out.2.2.2.2.1, HN.out.2.2.2.2.2.1, HN.out.2.2.2.2.2.2], HE.out.1⟩
    rw [results_cell_tmp rfl]
    simp [asAddr, Result.andThen, hl]
  have q1 : decide ((60 : Int) < (t.size : Int)) = false := decide_eq_false (by omega)
  by_cases hn : xs.length = 6
  · obtain ⟨x0, x1, x2, x3, x4, x5, rfl⟩ := six hn
    obtain ⟨gw, rfl, hgB, hgw, hcw⟩ := strs_at hown (show 0 < [x0, x1, x2, x3, x4, x5].length by rw [hn]; omega)
    have k0 := hcw 0 x0 rfl
    have k1 := hcw 1 x1 rfl
    have k3 := hcw 3 x3 rfl
    have k5 := hcw 5 x5 rfl
    have z3 := hsz x3 (by simp)
    have FN0 := Lib.hid (fun (hp : ptB t = true) => of6 hp HPC.out)
    have FN := Lib.hid (fun (hp : ptB t = true) => core hp (FN0.out hp).2.1 (FN0.out hp).2.2.1 (FN0.out hp).2.2.2.1 (FN0.out hp).2.2.2.2)
    clear hown hcw hsz hn
    simp only [List.length_cons, List.length_nil, Nat.zero_add, Nat.reduceAdd]
    have HS2 := Lib.hid (fun w => l1Split x3 44 w z3)
    go_wp2_with fail
    refine (HS2.out _).mono ?_
    rintro e w2 ⟨v, ys, rfl, hown, hb2, hpc⟩
    have HPY := Lib.hid hpc
    have ZQ := Lib.hid (ZQ.out.old hb2)
    have NQ := Lib.hid (NQ.out.old hb2)
    have BX := Lib.hid hb2
    have K1 := Lib.hid (fun (W : World) (hb : Below w1.heap.size w1 W) => (hb.cell (p := ⟨gw, 1, none⟩) hgw).trans k1)
    have K5 := Lib.hid (fun (W : World) (hb : Below w1.heap.size w1 W) => (hb.cell (p := ⟨gw, 5, none⟩) hgw).trans k5)
    have K0 := Lib.hid (fun (W : World) (hb : Below w1.heap.size w1 W) => (hb.cell (p := ⟨gw, 0, none⟩) hgw).trans k0)
    obtain ⟨A2, c2, rfl⟩ := own_strs hown
    clear hb2 HS2 hpc k0 k1 k3 k5 hgw z3 q1 h60
    by_cases hy2 : ys.length = 2
    rotate_left
    · have q2 : ((ys.length : Int) != 2) = true := by simp; omega
      have HN6 := Lib.hid (Bool.eq_false_iff.2 (fun hp => absurd ((FN.out hp).2.2.2.1 ys HPY.out) hy2))
      generalize ys.length = yl at *
      have HN := Lib.hid (HNo.out (HN6.out))
      have n0 : w2.cell? ⟨(w.heap.size + 1), 0, none⟩ = some (.int .i64 0) := NQ.out.cell 0
      have n1 : w2.cell? ⟨(w.heap.size + 1), 1, none⟩ = some (.int .i64 0) := NQ.out.cell 1
      have n2 : w2.cell? ⟨(w.heap.size + 1), 2, none⟩ = some (.int .i64 0) := NQ.out.cell 2
      have n3 : w2.cell? ⟨(w.heap.size + 1), 3, none⟩ = some (.int .i64 0) := NQ.out.cell 3
      have n4 : w2.cell? ⟨(w.heap.size + 1), 4, none⟩ = some (.int .i64 0) := NQ.out.cell 4
      have n5 : w2.cell? ⟨(w.heap.size + 1), 5, none⟩ = some (.int .i64 0) := NQ.out.cell 5
      have z0 : w2.cell? ⟨w.heap.size, 0, none⟩ = some (.int .i64 0) := ZQ.out.cell 0
      have zf0 := ZQ.out.frozen 0
      have z1 : w2.cell? ⟨w.heap.size, 1, none⟩ = some (.int .i64 0) := ZQ.out.cell 1
      have zf1 := ZQ.out.frozen 1
      have z2 : w2.cell? ⟨w.heap.size, 2, none⟩ = some (.int .i64 0) := ZQ.out.cell 2
      have zf2 := ZQ.out.frozen 2
      have z3 : w2.cell? ⟨w.heap.size, 3, none⟩ = some (.int .i64 0) := ZQ.out.cell 3
      have zf3 := ZQ.out.frozen 3
      have z4 : w2.cell? ⟨w.heap.size, 4, none⟩ = some (.int .i64 0) := ZQ.out.cell 4
      have zf4 := ZQ.out.frozen 4
      have z5 : w2.cell? ⟨w.heap.size, 5, none⟩ = some (.int .i64 0) := ZQ.out.cell 5
      have zf5 := ZQ.out.frozen 5
      have HE := Lib.hid ((((((ZQ.out.set 0 (.int .i64 0)).set 1 (.int .i64 0)).set 2 (.int .i64 0)).set 3 (.int .i64 0)).set 4 (.int .i64 0)).set 5 (.int .i64 0))
      go_wp2_with fail
      have hl := HE.out.load Tryd.underlying38 rfl (by kernel_rfl)
      refine bodyPost_ret (v := .tuple #[.agg #[.int .i64 0, .int .i64 0, .int .i64 0, .int .i64 0, .int .i64 0, .int .i64 0], .bool false]) ?_ rfl ⟨by rw [HN.out.1, HN.out.2.1, HN.out.2.2.1, HN.out.2.2.2.1, HN.out.2.2.2.2.1, HN.out.2.2.2.2.2.1, HN.out.2.2.2.2.2.2], HE.out.1⟩
      rw [results_cell_tmp rfl]
      simp [asAddr, Result.andThen, hl]
    obtain ⟨y0, y1, rfl⟩ := two hy2
    obtain ⟨gy, rfl, -, hgy, hcy⟩ := strs_at hown (show 0 < [y0, y1].length by simp)
    have L0 := Lib.hid (fun (W : World) (hb : Below w2.heap.size w2 W) => (hb.cell (p := ⟨gy, 0, none⟩) hgy).trans (hcy 0 y0 rfl))
    have L1 := Lib.hid (fun (W : World) (hb : Below w2.heap.size w2 W) => (hb.cell (p := ⟨gy, 1, none⟩) hgy).trans (hcy 1 y1 rfl))
    clear hown hcy hy2
    simp only [List.length_cons, List.length_nil, Nat.zero_add, Nat.reduceAdd]
    have FA := Lib.hid (fun (hp : ptB t = true) => And.intro (FN.out hp).1 (And.intro (FN.out hp).2.1 (And.intro (FN.out hp).2.2.1 (And.intro ((FN.out hp).2.2.2.2 y0 y1 HPY.out) (And.intro (FN0.out hp).1 (pt_yes hp))))))
    have R0 := Lib.hid (fun w => l1Read x0 w)
    have R1 := Lib.hid (fun w => l1Read y0 w)
    have R2 := Lib.hid (fun w => l1Read y1 w)
    have R3 := Lib.hid (fun w => l1Read x5 w)
    generalize rdB x0 = b0 at *
    generalize rdN x0 = n0 at *
    generalize rdB y0 = b1 at *
    generalize rdN y0 = n1 at *
    generalize rdB y1 = b2 at *
    generalize rdN y1 = n2 at *
    generalize rdB x5 = b3 at *
    generalize rdN x5 = n3 at *
    have hk4 := ix4_le x1
    have HIX := Lib.hid (fun (B : Nat) (W : World) (h : Wd W B) => index4 B x1 W h)
    generalize ix4 x1 = kx at *
    clear FN FN0 HPY
    have kk0 := K0.out w2 BX.out
    go_wp2_with fail
    refine (R0.out _).mono ?_
    rintro e u0 ⟨rfl, hb⟩
    have ZQ := Lib.hid (ZQ.out.old hb)
    have NQ := Lib.hid (NQ.out.old hb)
    have BX0 := Lib.hid (BX.out.trans (hb.mono BX.out.size))
    have BY0 := Lib.hid ((Below.refl w2.heap.size w2).trans (hb.mono (Below.refl w2.heap.size w2).size))
    clear hb kk0 BX
    have kk1 := L0.out u0 BY0.out
    go_wp2_with fail
    refine (R1.out _).mono ?_
    rintro e u1 ⟨rfl, hb⟩
    have ZQ := Lib.hid (ZQ.out.old hb)
    have NQ := Lib.hid (NQ.out.old hb)
    have BX1 := Lib.hid (BX0.out.trans (hb.mono BX0.out.size))
    have BY1 := Lib.hid (BY0.out.trans (hb.mono BY0.out.size))
    clear hb kk1 BX0 BY0
    have kk2 := L1.out u1 BY1.out
    go_wp2_with fail
    refine (R2.out _).mono ?_
    rintro e u2 ⟨rfl, hb⟩
    have ZQ := Lib.hid (ZQ.out.old hb)
    have NQ := Lib.hid (NQ.out.old hb)
    have BX2 := Lib.hid (BX1.out.trans (hb.mono BX1.out.size))
    have BY2 := Lib.hid (BY1.out.trans (hb.mono BY1.out.size))
    clear hb kk2 BX1 BY1
    have kk3 := K5.out u2 BX2.out
    go_wp2_with fail
    refine (R3.out _).mono ?_
    rintro e w3 ⟨rfl, hb⟩
    have ZQ := Lib.hid (ZQ.out.old hb)
    have NQ := Lib.hid (NQ.out.old hb)
    have BX3 := Lib.hid (BX2.out.trans (hb.mono BX2.out.size))
    have BY3 := Lib.hid (BY2.out.trans (hb.mono BY2.out.size))
    clear hb kk3 BX2 BY2
    have BX := Lib.hid BX3.out
    obtain ⟨n4, hn4⟩ : ∃ n4 : Int, n4 = 0 := ⟨0, rfl⟩
    obtain ⟨b4, hb4⟩ : ∃ b4 : Bool, b4 = true := ⟨true, rfl⟩
    have HN4 := Lib.hid hn4
    have HB4 := Lib.hid hb4
    clear BX3
    have KX := Lib.hid (fun (W : World) (hb : Below w3.heap.size w3 W) => K1.out W (BX.out.trans (hb.mono BX.out.size)))
    have HW14 := Lib.hid (fun (W : World) => words14 W)
    subst hn4
    subst hb4
    go_upto_region 16 with fail
    go_cut [18] from 81 to 91 (fun v wx => ∃ b, v = .pointer (some ⟨b, 0, none⟩) ∧ AtS 38 #[.int .i64 n0, .int .i64 ((kx : Nat) : Int), .int .i64 n1, .int .i64 n2, .int .i64 n3, .int .i64 0] w3 wx b)
    case first =>
      have B0 := Lib.hid ((Below.refl w3.heap.size w3).drew)
      refine wp_region_tail (S := fun w' => Below w3.heap.size w3 w') 12 (by kernel_rfl) B0.out (fun hHeld => ?_)
      generalize w3.drew = W0 at *
      try simp only [Act.put]
      refine wpAnyE_take (i := 0) (v := ?vqs0) rfl (by decide +kernel) (fun _ _ _ h => h) (Or.inl ⟨by rfl, ?hqs0⟩) (by assumption) ?rqs0
      case hqs0 =>
        intro wS hSw
        have h0 := KX.out wS hSw
        go_simp
        try with_reducible rfl
      try simp only [Act.put]
      refine wpAnyE_take (i := 2) (v := ?vqs2) rfl (by decide +kernel) (fun _ _ _ h => h) (Or.inl ⟨by rfl, ?hqs2⟩) (by assumption) ?rqs2
      case hqs2 =>
        intro wS hSw
        have h0 := KX.out wS hSw
        go_simp
        try with_reducible rfl
      try simp only [Act.put]
      refine wpAnyE_take (i := 3) (v := ?vqs3) rfl (by decide +kernel) (fun _ _ _ h => h) (Or.inl ⟨by rfl, ?hqs3⟩) (by assumption) ?rqs3
      case hqs3 =>
        intro wS hSw
        have h0 := KX.out wS hSw
        go_simp
        try with_reducible rfl
      try simp only [Act.put]
      refine wpAnyE_take (i := 4) (v := ?vqs4) rfl (by decide +kernel) (fun _ _ _ h => h) (Or.inl ⟨by rfl, ?hqs4⟩) (by assumption) ?rqs4
      case hqs4 =>
        intro wS hSw
        have h0 := KX.out wS hSw
        go_simp
        try with_reducible rfl
      try simp only [Act.put]
      refine wpAnyE_take (i := 6) (v := ?vqs6) rfl (by decide +kernel) (fun _ _ _ h => h) (Or.inl ⟨by rfl, ?hqs6⟩) (by assumption) ?rqs6
      case hqs6 =>
        intro wS hSw
        have h0 := KX.out wS hSw
        go_simp
        try with_reducible rfl
      try simp only [Act.put]
      refine wpAnyE_take (i := 7) (v := ?vqs7) rfl (by decide +kernel) (fun _ _ _ h => h) (Or.inl ⟨by rfl, ?hqs7⟩) (by assumption) ?rqs7
      case hqs7 =>
        intro wS hSw
        have h0 := KX.out wS hSw
        go_simp
        try with_reducible rfl
      try simp only [Act.put]
      refine wpAnyE_take (i := 8) (v := ?vqs8) rfl (by decide +kernel) (fun _ _ _ h => h) (Or.inl ⟨by rfl, ?hqs8⟩) (by assumption) ?rqs8
      case hqs8 =>
        intro wS hSw
        have h0 := KX.out wS hSw
        go_simp
        try with_reducible rfl
      try simp only [Act.put]
      refine wpAnyE_take (i := 9) (v := ?vqs9) rfl (by decide +kernel) (fun _ _ _ h => h) (Or.inl ⟨by rfl, ?hqs9⟩) (by assumption) ?rqs9
      case hqs9 =>
        intro wS hSw
        have h0 := KX.out wS hSw
        go_simp
        try with_reducible rfl
      try simp only [Act.put]
      refine wpAnyE_ready (rs := [1, 11]) (by kernel_rfl) (by simp) ?_
      refine AllReadyE.cons (i := 1) rfl (by decide) (fun K hK => ?_) (AllReadyE.cons (i := 11) rfl (by decide) (fun K hK => ?_) AllReadyE.nil)
      · go_simp
        refine (HW14.out _).mono ?_
        rintro e Woa ⟨rfl, hb, hd⟩
        have Doa := Lib.hid hd
        have Boa := Lib.hid (B0.out.trans (hb.mono B0.out.size))
        clear hb hd
        refine hK.out _ _ Boa.out (fun hHeld => ?_)
        clear hK K
        try simp only [Act.put]
        refine wpAnyE_ready (rs := [5, 11]) (by kernel_rfl) (by simp) ?_
        refine AllReadyE.cons (i := 5) rfl (by decide) (fun K hK => ?_) (AllReadyE.cons (i := 11) rfl (by decide) (fun K hK => ?_) AllReadyE.nil)
        · go_simp
          refine (HIX.out _ _ Doa.out).mono ?_
          rintro e w_ ⟨rfl, hw_⟩
          obtain rfl : Woa = w_ := hw_.symm
          refine hK.out _ _ Boa.out (fun hHeld => ?_)
          clear hK K
          try simp only [Act.put]
          refine wpAnyE_take (i := 10) (v := ?vqoab10) rfl (by decide +kernel) (fun _ _ _ h => h) (Or.inl ⟨by rfl, ?hqoab10⟩) (by assumption) ?rqoab10
          case hqoab10 =>
            intro wS hSw
            have h0 := KX.out wS hSw
            go_simp
            try with_reducible rfl
          try simp only [Act.put]
          refine wpAnyE_ready (rs := [11]) (by kernel_rfl) (by simp) ?_
          refine AllReadyE.cons (i := 11) rfl (by decide) (fun K hK => ?_) AllReadyE.nil
          go_simp
          have Boabc := Lib.hid (Boa.out.alloc Boa.out.size (.cells #[.int .i64 0, .int .i64 0, .int .i64 0, .int .i64 0, .int .i64 0, .int .i64 0] 38))
          have Poabc := Lib.hid (show AtS 38 #[.int .i64 0, .int .i64 0, .int .i64 0, .int .i64 0, .int .i64 0, .int .i64 0] w3 (Woa.alloc (.cells #[.int .i64 0, .int .i64 0, .int .i64 0, .int .i64 0, .int .i64 0, .int .i64 0] 38)) Woa.heap.size from ⟨Boabc.out, Boa.out.size, by rw [World.size_alloc]; omega, heap_alloc_new _ _⟩)
          have Doabc := Lib.hid (Doa.out.old ((Below.refl _ _).alloc (Nat.le_refl _) (.cells #[.int .i64 0, .int .i64 0, .int .i64 0, .int .i64 0, .int .i64 0, .int .i64 0] 38)))
          refine hK.out _ _ Boabc.out (fun hHeld => ?_)
          clear hK K
          try simp only [Act.put]
          generalize Woa.alloc (.cells #[.int .i64 0, .int .i64 0, .int .i64 0, .int .i64 0, .int .i64 0, .int .i64 0] 38) = Voabc at *
          generalize Woa.heap.size = poabc at *
          have s0 : Voabc.cell? ⟨poabc, 0, none⟩ = some (.int .i64 0) := Poabc.out.cell 0
          have sf0 := Poabc.out.frozen 0
          have s1 : Voabc.cell? ⟨poabc, 1, none⟩ = some (.int .i64 0) := Poabc.out.cell 1
          have sf1 := Poabc.out.frozen 1
          have s2 : Voabc.cell? ⟨poabc, 2, none⟩ = some (.int .i64 0) := Poabc.out.cell 2
          have sf2 := Poabc.out.frozen 2
          have s3 : Voabc.cell? ⟨poabc, 3, none⟩ = some (.int .i64 0) := Poabc.out.cell 3
          have sf3 := Poabc.out.frozen 3
          have s4 : Voabc.cell? ⟨poabc, 4, none⟩ = some (.int .i64 0) := Poabc.out.cell 4
          have sf4 := Poabc.out.frozen 4
          have s5 : Voabc.cell? ⟨poabc, 5, none⟩ = some (.int .i64 0) := Poabc.out.cell 5
          have sf5 := Poabc.out.frozen 5
          refine wpAnyE_ready (rs := [12]) (by kernel_rfl) (by simp) ?_
          refine AllReadyE.last (i := 12) rfl rfl (fun K hK => ?_)
          go_simp
          refine hK.out _ _ ?_
          clear hK K
          try simp only [Act.put]
          refine wpAnyE_done (by kernel_rfl) ?_ _
          try simp only [List.getElem_toArray, List.getElem_cons_succ, List.getElem_cons_zero, List.setIfInBounds_toArray, List.set_cons_succ, List.set_cons_zero]
          go_wp2_with fail
          go_meet
          exact ⟨_, rfl, ((((((Poabc.out.set 0 (.int .i64 n0)).set 1 (.int .i64 ((kx : Nat) : Int))).set 2 (.int .i64 n1)).set 3 (.int .i64 n2)).set 4 (.int .i64 n3)).set 5 (.int .i64 0))⟩
        · go_simp
          have Boac := Lib.hid (Boa.out.alloc Boa.out.size (.cells #[.int .i64 0, .int .i64 0, .int .i64 0, .int .i64 0, .int .i64 0, .int .i64 0] 38))
          have Poac := Lib.hid (show AtS 38 #[.int .i64 0, .int .i64 0, .int .i64 0, .int .i64 0, .int .i64 0, .int .i64 0] w3 (Woa.alloc (.cells #[.int .i64 0, .int .i64 0, .int .i64 0, .int .i64 0, .int .i64 0, .int .i64 0] 38)) Woa.heap.size from ⟨Boac.out, Boa.out.size, by rw [World.size_alloc]; omega, heap_alloc_new _ _⟩)
          have Doac := Lib.hid (Doa.out.old ((Below.refl _ _).alloc (Nat.le_refl _) (.cells #[.int .i64 0, .int .i64 0, .int .i64 0, .int .i64 0, .int .i64 0, .int .i64 0] 38)))
          refine hK.out _ _ Boac.out (fun hHeld => ?_)
          clear hK K
          try simp only [Act.put]
          generalize Woa.alloc (.cells #[.int .i64 0, .int .i64 0, .int .i64 0, .int .i64 0, .int .i64 0, .int .i64 0] 38) = Voac at *
          generalize Woa.heap.size = poac at *
          refine wpAnyE_ready (rs := [5]) (by kernel_rfl) (by simp) ?_
          refine AllReadyE.cons (i := 5) rfl (by decide) (fun K hK => ?_) AllReadyE.nil
          go_simp
          refine (HIX.out _ _ Doac.out).mono ?_
          rintro e w_ ⟨rfl, hw_⟩
          obtain rfl : Voac = w_ := hw_.symm
          refine hK.out _ _ Boac.out (fun hHeld => ?_)
          clear hK K
          try simp only [Act.put]
          refine wpAnyE_take (i := 10) (v := ?vqoacb10) rfl (by decide +kernel) (fun _ _ _ h => h) (Or.inl ⟨by rfl, ?hqoacb10⟩) (by assumption) ?rqoacb10
          case hqoacb10 =>
            intro wS hSw
            have h0 := KX.out wS hSw
            go_simp
            try with_reducible rfl
          try simp only [Act.put]
          have s0 : Voac.cell? ⟨poac, 0, none⟩ = some (.int .i64 0) := Poac.out.cell 0
          have sf0 := Poac.out.frozen 0
          have s1 : Voac.cell? ⟨poac, 1, none⟩ = some (.int .i64 0) := Poac.out.cell 1
          have sf1 := Poac.out.frozen 1
          have s2 : Voac.cell? ⟨poac, 2, none⟩ = some (.int .i64 0) := Poac.out.cell 2
          have sf2 := Poac.out.frozen 2
          have s3 : Voac.cell? ⟨poac, 3, none⟩ = some (.int .i64 0) := Poac.out.cell 3
          have sf3 := Poac.out.frozen 3
          have s4 : Voac.cell? ⟨poac, 4, none⟩ = some (.int .i64 0) := Poac.out.cell 4
          have sf4 := Poac.out.frozen 4
          have s5 : Voac.cell? ⟨poac, 5, none⟩ = some (.int .i64 0) := Poac.out.cell 5
          have sf5 := Poac.out.frozen 5
          refine wpAnyE_ready (rs := [12]) (by kernel_rfl) (by simp) ?_
          refine AllReadyE.last (i := 12) rfl rfl (fun K hK => ?_)
          go_simp
          refine hK.out _ _ ?_
          clear hK K
          try simp only [Act.put]
          refine wpAnyE_done (by kernel_rfl) ?_ _
          try simp only [List.getElem_toArray, List.getElem_cons_succ, List.getElem_cons_zero, List.setIfInBounds_toArray, List.set_cons_succ, List.set_cons_zero]
          go_wp2_with fail
          go_meet
          exact ⟨_, rfl, ((((((Poac.out.set 0 (.int .i64 n0)).set 1 (.int .i64 ((kx : Nat) : Int))).set 2 (.int .i64 n1)).set 3 (.int .i64 n2)).set 4 (.int .i64 n3)).set 5 (.int .i64 0))⟩
      · go_simp
        have Boc := Lib.hid (B0.out.alloc B0.out.size (.cells #[.int .i64 0, .int .i64 0, .int .i64 0, .int .i64 0, .int .i64 0, .int .i64 0] 38))
        have Poc := Lib.hid (show AtS 38 #[.int .i64 0, .int .i64 0, .int .i64 0, .int .i64 0, .int .i64 0, .int .i64 0] w3 (W0.alloc (.cells #[.int .i64 0, .int .i64 0, .int .i64 0, .int .i64 0, .int .i64 0, .int .i64 0] 38)) W0.heap.size from ⟨Boc.out, B0.out.size, by rw [World.size_alloc]; omega, heap_alloc_new _ _⟩)
        refine hK.out _ _ Boc.out (fun hHeld => ?_)
        clear hK K
        try simp only [Act.put]
        generalize W0.alloc (.cells #[.int .i64 0, .int .i64 0, .int .i64 0, .int .i64 0, .int .i64 0, .int .i64 0] 38) = Voc at *
        generalize W0.heap.size = poc at *
        refine wpAnyE_ready (rs := [1]) (by kernel_rfl) (by simp) ?_
        refine AllReadyE.cons (i := 1) rfl (by decide) (fun K hK => ?_) AllReadyE.nil
        go_simp
        refine (HW14.out _).mono ?_
        rintro e Woca ⟨rfl, hb, hd⟩
        have Doca := Lib.hid hd
        have Boca := Lib.hid (Boc.out.trans (hb.mono Boc.out.size))
        have Poca := Lib.hid (Poc.out.old hb)
        clear hb hd
        refine hK.out _ _ Boca.out (fun hHeld => ?_)
        clear hK K
        try simp only [Act.put]
        refine wpAnyE_ready (rs := [5]) (by kernel_rfl) (by simp) ?_
        refine AllReadyE.cons (i := 5) rfl (by decide) (fun K hK => ?_) AllReadyE.nil
        go_simp
        refine (HIX.out _ _ Doca.out).mono ?_
        rintro e w_ ⟨rfl, hw_⟩
        obtain rfl : Woca = w_ := hw_.symm
        refine hK.out _ _ Boca.out (fun hHeld => ?_)
        clear hK K
        try simp only [Act.put]
        refine wpAnyE_take (i := 10) (v := ?vqocab10) rfl (by decide +kernel) (fun _ _ _ h => h) (Or.inl ⟨by rfl, ?hqocab10⟩) (by assumption) ?rqocab10
        case hqocab10 =>
          intro wS hSw
          have h0 := KX.out wS hSw
          go_simp
          try with_reducible rfl
        try simp only [Act.put]
        have s0 : Woca.cell? ⟨poc, 0, none⟩ = some (.int .i64 0) := Poca.out.cell 0
        have sf0 := Poca.out.frozen 0
        have s1 : Woca.cell? ⟨poc, 1, none⟩ = some (.int .i64 0) := Poca.out.cell 1
        have sf1 := Poca.out.frozen 1
        have s2 : Woca.cell? ⟨poc, 2, none⟩ = some (.int .i64 0) := Poca.out.cell 2
        have sf2 := Poca.out.frozen 2
        have s3 : Woca.cell? ⟨poc, 3, none⟩ = some (.int .i64 0) := Poca.out.cell 3
        have sf3 := Poca.out.frozen 3
        have s4 : Woca.cell? ⟨poc, 4, none⟩ = some (.int .i64 0) := Poca.out.cell 4
        have sf4 := Poca.out.frozen 4
        have s5 : Woca.cell? ⟨poc, 5, none⟩ = some (.int .i64 0) := Poca.out.cell 5
        have sf5 := Poca.out.frozen 5
        refine wpAnyE_ready (rs := [12]) (by kernel_rfl) (by simp) ?_
        refine AllReadyE.last (i := 12) rfl rfl (fun K hK => ?_)
        go_simp
        refine hK.out _ _ ?_
        clear hK K
        try simp only [Act.put]
        refine wpAnyE_done (by kernel_rfl) ?_ _
        try simp only [List.getElem_toArray, List.getElem_cons_succ, List.getElem_cons_zero, List.setIfInBounds_toArray, List.set_cons_succ, List.set_cons_zero]
        go_wp2_with fail
        go_meet
        exact ⟨_, rfl, ((((((Poca.out.set 0 (.int .i64 n0)).set 1 (.int .i64 ((kx : Nat) : Int))).set 2 (.int .i64 n1)).set 3 (.int .i64 n2)).set 4 (.int .i64 n3)).set 5 (.int .i64 0))⟩
    case rest =>
      obtain ⟨bp, rfl, hPQ⟩ := hcut
      have PQ := Lib.hid hPQ
      have ZQ := Lib.hid (ZQ.out.old hPQ.1)
      have NQ := Lib.hid (NQ.out.old hPQ.1)
      clear hPQ BX KX HW14 HIX
      cases b0
      · have HN6 := Lib.hid (Bool.eq_false_iff.2 (fun hp => by have h9 := (FA.out hp).1.1; cases h9))
        have HN := Lib.hid (HNo.out (HN6.out))
        have n0 : wc.cell? ⟨(w.heap.size + 1), 0, none⟩ = some (.int .i64 0) := NQ.out.cell 0
        have n1 : wc.cell? ⟨(w.heap.size + 1), 1, none⟩ = some (.int .i64 0) := NQ.out.cell 1
        have n2 : wc.cell? ⟨(w.heap.size + 1), 2, none⟩ = some (.int .i64 0) := NQ.out.cell 2
        have n3 : wc.cell? ⟨(w.heap.size + 1), 3, none⟩ = some (.int .i64 0) := NQ.out.cell 3
        have n4 : wc.cell? ⟨(w.heap.size + 1), 4, none⟩ = some (.int .i64 0) := NQ.out.cell 4
        have n5 : wc.cell? ⟨(w.heap.size + 1), 5, none⟩ = some (.int .i64 0) := NQ.out.cell 5
        have z0 : wc.cell? ⟨w.heap.size, 0, none⟩ = some (.int .i64 0) := ZQ.out.cell 0
        have zf0 := ZQ.out.frozen 0
        have z1 : wc.cell? ⟨w.heap.size, 1, none⟩ = some (.int .i64 0) := ZQ.out.cell 1
        have zf1 := ZQ.out.frozen 1
        have z2 : wc.cell? ⟨w.heap.size, 2, none⟩ = some (.int .i64 0) := ZQ.out.cell 2
        have zf2 := ZQ.out.frozen 2
        have z3 : wc.cell? ⟨w.heap.size, 3, none⟩ = some (.int .i64 0) := ZQ.out.cell 3
        have zf3 := ZQ.out.frozen 3
        have z4 : wc.cell? ⟨w.heap.size, 4, none⟩ = some (.int .i64 0) := ZQ.out.cell 4
        have zf4 := ZQ.out.frozen 4
        have z5 : wc.cell? ⟨w.heap.size, 5, none⟩ = some (.int .i64 0) := ZQ.out.cell 5
        have zf5 := ZQ.out.frozen 5
        have HE := Lib.hid ((((((ZQ.out.set 0 (.int .i64 0)).set 1 (.int .i64 0)).set 2 (.int .i64 0)).set 3 (.int .i64 0)).set 4 (.int .i64 0)).set 5 (.int .i64 0))
        go_wp2_with fail
        have hl := HE.out.load Tryd.underlying38 rfl (by kernel_rfl)
        refine bodyPost_ret (v := .tuple #[.agg #[.int .i64 0, .int .i64 0, .int .i64 0, .int .i64 0, .int .i64 0, .int .i64 0], .bool false]) ?_ rfl ⟨by rw [HN.out.1, HN.out.2.1, HN.out.2.2.1, HN.out.2.2.2.1, HN.out.2.2.2.2.1, HN.out.2.2.2.2.2.1, HN.out.2.2.2.2.2.2], HE.out.1⟩
        rw [results_cell_tmp rfl]
        simp [asAddr, Result.andThen, hl]
      cases b1
      · have HN6 := Lib.hid (Bool.eq_false_iff.2 (fun hp => by have h9 := (FA.out hp).2.2.2.1.1.1; cases h9))
        have HN := Lib.hid (HNo.out (HN6.out))
        have n0 : wc.cell? ⟨(w.heap.size + 1), 0, none⟩ = some (.int .i64 0) := NQ.out.cell 0
        have n1 : wc.cell? ⟨(w.heap.size + 1), 1, none⟩ = some (.int .i64 0) := NQ.out.cell 1
        have n2 : wc.cell? ⟨(w.heap.size + 1), 2, none⟩ = some (.int .i64 0) := NQ.out.cell 2
        have n3 : wc.cell? ⟨(w.heap.size + 1), 3, none⟩ = some (.int .i64 0) := NQ.out.cell 3
        have n4 : wc.cell? ⟨(w.heap.size + 1), 4, none⟩ = some (.int .i64 0) := NQ.out.cell 4
        have n5 : wc.cell? ⟨(w.heap.size + 1), 5, none⟩ = some (.int .i64 0) := NQ.out.cell 5
        have z0 : wc.cell? ⟨w.heap.size, 0, none⟩ = some (.int .i64 0) := ZQ.out.cell 0
        have zf0 := ZQ.out.frozen 0
        have z1 : wc.cell? ⟨w.heap.size, 1, none⟩ = some (.int .i64 0) := ZQ.out.cell 1
        have zf1 := ZQ.out.frozen 1
        have z2 : wc.cell? ⟨w.heap.size, 2, none⟩ = some (.int .i64 0) := ZQ.out.cell 2
        have zf2 := ZQ.out.frozen 2
        have z3 : wc.cell? ⟨w.heap.size, 3, none⟩ = some (.int .i64 0) := ZQ.out.cell 3
        have zf3 := ZQ.out.frozen 3
        have z4 : wc.cell? ⟨w.heap.size, 4, none⟩ = some (.int .i64 0) := ZQ.out.cell 4
        have zf4 := ZQ.out.frozen 4
        have z5 : wc.cell? ⟨w.heap.size, 5, none⟩ = some (.int .i64 0) := ZQ.out.cell 5
        have zf5 := ZQ.out.frozen 5
        have HE := Lib.hid ((((((ZQ.out.set 0 (.int .i64 0)).set 1 (.int .i64 0)).set 2 (.int .i64 0)).set 3 (.int .i64 0)).set 4 (.int .i64 0)).set 5 (.int .i64 0))
        go_wp2_with fail
        have hl := HE.out.load Tryd.underlying38 rfl (by kernel_rfl)
        refine bodyPost_ret (v := .tuple #[.agg #[.int .i64 0, .int .i64 0, .int .i64 0, .int .i64 0, .int .i64 0, .int .i64 0], .bool false]) ?_ rfl ⟨by rw [HN.out.1, HN.out.2.1, HN.out.2.2.1, HN.out.2.2.2.1, HN.out.2.2.2.2.1, HN.out.2.2.2.2.2.1, HN.out.2.2.2.2.2.2], HE.out.1⟩
        rw [results_cell_tmp rfl]
        simp [asAddr, Result.andThen, hl]
      cases b2
      · have HN6 := Lib.hid (Bool.eq_false_iff.2 (fun hp => by have h9 := (FA.out hp).2.2.2.1.2.1; cases h9))
        have HN := Lib.hid (HNo.out (HN6.out))
        have n0 : wc.cell? ⟨(w.heap.size + 1), 0, none⟩ = some (.int .i64 0) := NQ.out.cell 0
        have n1 : wc.cell? ⟨(w.heap.size + 1), 1, none⟩ = some (.int .i64 0) := NQ.out.cell 1
        have n2 : wc.cell? ⟨(w.heap.size + 1), 2, none⟩ = some (.int .i64 0) := NQ.out.cell 2
        have n3 : wc.cell? ⟨(w.heap.size + 1), 3, none⟩ = some (.int .i64 0) := NQ.out.cell 3
        have n4 : wc.cell? ⟨(w.heap.size + 1), 4, none⟩ = some (.int .i64 0) := NQ.out.cell 4
        have n5 : wc.cell? ⟨(w.heap.size + 1), 5, none⟩ = some (.int .i64 0) := NQ.out.cell 5
        have z0 : wc.cell? ⟨w.heap.size, 0, none⟩ = some (.int .i64 0) := ZQ.out.cell 0
        have zf0 := ZQ.out.frozen 0
        have z1 : wc.cell? ⟨w.heap.size, 1, none⟩ = some (.int .i64 0) := ZQ.out.cell 1
        have zf1 := ZQ.out.frozen 1
        have z2 : wc.cell? ⟨w.heap.size, 2, none⟩ = some (.int .i64 0) := ZQ.out.cell 2
        have zf2 := ZQ.out.frozen 2
        have z3 : wc.cell? ⟨w.heap.size, 3, none⟩ = some (.int .i64 0) := ZQ.out.cell 3
        have zf3 := ZQ.out.frozen 3
        have z4 : wc.cell? ⟨w.heap.size, 4, none⟩ = some (.int .i64 0) := ZQ.out.cell 4
        have zf4 := ZQ.out.frozen 4
        have z5 : wc.cell? ⟨w.heap.size, 5, none⟩ = some (.int .i64 0) := ZQ.out.cell 5
        have zf5 := ZQ.out.frozen 5
        have HE := Lib.hid ((((((ZQ.out.set 0 (.int .i64 0)).set 1 (.int .i64 0)).set 2 (.int .i64 0)).set 3 (.int .i64 0)).set 4 (.int .i64 0)).set 5 (.int .i64 0))
        go_wp2_with fail
        have hl := HE.out.load Tryd.underlying38 rfl (by kernel_rfl)
        refine bodyPost_ret (v := .tuple #[.agg #[.int .i64 0, .int .i64 0, .int .i64 0, .int .i64 0, .int .i64 0, .int .i64 0], .bool false]) ?_ rfl ⟨by rw [HN.out.1, HN.out.2.1, HN.out.2.2.1, HN.out.2.2.2.1, HN.out.2.2.2.2.1, HN.out.2.2.2.2.2.1, HN.out.2.2.2.2.2.2], HE.out.1⟩
        rw [results_cell_tmp rfl]
        simp [asAddr, Result.andThen, hl]
      cases b3
      · have HN6 := Lib.hid (Bool.eq_false_iff.2 (fun hp => by have h9 := (FA.out hp).2.2.1.1; cases h9))
        have HN := Lib.hid (HNo.out (HN6.out))
        have n0 : wc.cell? ⟨(w.heap.size + 1), 0, none⟩ = some (.int .i64 0) := NQ.out.cell 0
        have n1 : wc.cell? ⟨(w.heap.size + 1), 1, none⟩ = some (.int .i64 0) := NQ.out.cell 1
        have n2 : wc.cell? ⟨(w.heap.size + 1), 2, none⟩ = some (.int .i64 0) := NQ.out.cell 2
        have n3 : wc.cell? ⟨(w.heap.size + 1), 3, none⟩ = some (.int .i64 0) := NQ.out.cell 3
        have n4 : wc.cell? ⟨(w.heap.size + 1), 4, none⟩ = some (.int .i64 0) := NQ.out.cell 4
        have n5 : wc.cell? ⟨(w.heap.size + 1), 5, none⟩ = some (.int .i64 0) := NQ.out.cell 5
        have z0 : wc.cell? ⟨w.heap.size, 0, none⟩ = some (.int .i64 0) := ZQ.out.cell 0
        have zf0 := ZQ.out.frozen 0
        have z1 : wc.cell? ⟨w.heap.size, 1, none⟩ = some (.int .i64 0) := ZQ.out.cell 1
        have zf1 := ZQ.out.frozen 1
        have z2 : wc.cell? ⟨w.heap.size, 2, none⟩ = some (.int .i64 0) := ZQ.out.cell 2
        have zf2 := ZQ.out.frozen 2
        have z3 : wc.cell? ⟨w.heap.size, 3, none⟩ = some (.int .i64 0) := ZQ.out.cell 3
        have zf3 := ZQ.out.frozen 3
        have z4 : wc.cell? ⟨w.heap.size, 4, none⟩ = some (.int .i64 0) := ZQ.out.cell 4
        have zf4 := ZQ.out.frozen 4
        have z5 : wc.cell? ⟨w.heap.size, 5, none⟩ = some (.int .i64 0) := ZQ.out.cell 5
        have zf5 := ZQ.out.frozen 5
        have HE := Lib.hid ((((((ZQ.out.set 0 (.int .i64 0)).set 1 (.int .i64 0)).set 2 (.int .i64 0)).set 3 (.int .i64 0)).set 4 (.int .i64 0)).set 5 (.int .i64 0))
        go_wp2_with fail
        have hl := HE.out.load Tryd.underlying38 rfl (by kernel_rfl)
        refine bodyPost_ret (v := .tuple #[.agg #[.int .i64 0, .int .i64 0, .int .i64 0, .int .i64 0, .int .i64 0, .int .i64 0], .bool false]) ?_ rfl ⟨by rw [HN.out.1, HN.out.2.1, HN.out.2.2.1, HN.out.2.2.2.1, HN.out.2.2.2.2.1, HN.out.2.2.2.2.2.1, HN.out.2.2.2.2.2.2], HE.out.1⟩
        rw [results_cell_tmp rfl]
        simp [asAddr, Result.andThen, hl]
      have FT := Lib.hid (fun (hp : ptB t = true) => show tkB n0 ((kx : Nat) : Int) n1 n2 n3 0 = true ∧ tlT n0 ((kx : Nat) : Int) n1 n2 n3 0 = t from by
        obtain ⟨⟨-, g0⟩, g1, ⟨-, g3⟩, ⟨⟨-, gx⟩, -, gy⟩, gl, g6, g7⟩ := FA.out hp
        rw [← g0, ← g1, ← gx, ← gy, ← g3, gl] at g6 g7
        exact ⟨g6, g7⟩)
      have HG := Lib.hid (fun W => trks.good14 n0 ((kx : Nat) : Int) n1 n2 n3 0 W)
      have HLN := Lib.hid (fun (W : World) (hv : tkB n0 ((kx : Nat) : Int) n1 n2 n3 0 = true) => line14 n0 kx n1 n2 n3 0 W hv hk4)
      have p0 : wc.cell? ⟨bp, 0, none⟩ = some (.int .i64 n0) := PQ.out.cell 0
      have p1 : wc.cell? ⟨bp, 1, none⟩ = some (.int .i64 ((kx : Nat) : Int)) := PQ.out.cell 1
      have p2 : wc.cell? ⟨bp, 2, none⟩ = some (.int .i64 n1) := PQ.out.cell 2
      have p3 : wc.cell? ⟨bp, 3, none⟩ = some (.int .i64 n2) := PQ.out.cell 3
      have p4 : wc.cell? ⟨bp, 4, none⟩ = some (.int .i64 n3) := PQ.out.cell 4
      have p5 : wc.cell? ⟨bp, 5, none⟩ = some (.int .i64 0) := PQ.out.cell 5
      cases hv : tkB n0 ((kx : Nat) : Int) n1 n2 n3 0
      · have HN6 := Lib.hid (Bool.eq_false_iff.2 (fun hp => by have h9 := (FT.out hp).1; rw [hv] at h9; cases h9))
        rw [hv] at HG
        clear hv HLN FT
        go_wp2_with fail
        refine (HG.out _).mono ?_
        rintro e wf ⟨rfl, hbf⟩
        have ZQ := Lib.hid (ZQ.out.old hbf)
        have NQ := Lib.hid (NQ.out.old hbf)
        clear hbf p0 p1 p2 p3 p4 p5
        have HN := Lib.hid (HNo.out (HN6.out))
        have n0 : wf.cell? ⟨(w.heap.size + 1), 0, none⟩ = some (.int .i64 0) := NQ.out.cell 0
        have n1 : wf.cell? ⟨(w.heap.size + 1), 1, none⟩ = some (.int .i64 0) := NQ.out.cell 1
        have n2 : wf.cell? ⟨(w.heap.size + 1), 2, none⟩ = some (.int .i64 0) := NQ.out.cell 2
        have n3 : wf.cell? ⟨(w.heap.size + 1), 3, none⟩ = some (.int .i64 0) := NQ.out.cell 3
        have n4 : wf.cell? ⟨(w.heap.size + 1), 4, none⟩ = some (.int .i64 0) := NQ.out.cell 4
        have n5 : wf.cell? ⟨(w.heap.size + 1), 5, none⟩ = some (.int .i64 0) := NQ.out.cell 5
        have z0 : wf.cell? ⟨w.heap.size, 0, none⟩ = some (.int .i64 0) := ZQ.out.cell 0
        have zf0 := ZQ.out.frozen 0
        have z1 : wf.cell? ⟨w.heap.size, 1, none⟩ = some (.int .i64 0) := ZQ.out.cell 1
        have zf1 := ZQ.out.frozen 1
        have z2 : wf.cell? ⟨w.heap.size, 2, none⟩ = some (.int .i64 0) := ZQ.out.cell 2
        have zf2 := ZQ.out.frozen 2
        have z3 : wf.cell? ⟨w.heap.size, 3, none⟩ = some (.int .i64 0) := ZQ.out.cell 3
        have zf3 := ZQ.out.frozen 3
        have z4 : wf.cell? ⟨w.heap.size, 4, none⟩ = some (.int .i64 0) := ZQ.out.cell 4
        have zf4 := ZQ.out.frozen 4
        have z5 : wf.cell? ⟨w.heap.size, 5, none⟩ = some (.int .i64 0) := ZQ.out.cell 5
        have zf5 := ZQ.out.frozen 5
        have HE := Lib.hid ((((((ZQ.out.set 0 (.int .i64 0)).set 1 (.int .i64 0)).set 2 (.int .i64 0)).set 3 (.int .i64 0)).set 4 (.int .i64 0)).set 5 (.int .i64 0))
        go_wp2_with fail
        have hl := HE.out.load Tryd.underlying38 rfl (by kernel_rfl)
        refine bodyPost_ret (v := .tuple #[.agg #[.int .i64 0, .int .i64 0, .int .i64 0, .int .i64 0, .int .i64 0, .int .i64 0], .bool false]) ?_ rfl ⟨by rw [HN.out.1, HN.out.2.1, HN.out.2.2.1, HN.out.2.2.2.1, HN.out.2.2.2.2.1, HN.out.2.2.2.2.2.1, HN.out.2.2.2.2.2.2], HE.out.1⟩
        rw [results_cell_tmp rfl]
        simp [asAddr, Result.andThen, hl]
      have HLV := Lib.hid (fun W => HLN.out W hv)
      rw [hv] at HG
      have HYY := Lib.hid (fun (h : ((tlT n0 ((kx : Nat) : Int) n1 n2 n3 0).toList == t.toList) = true) => HYe.out n0 ((kx : Nat) : Int) n1 n2 n3 0 hv (str_of h))
      have HNN := Lib.hid (fun (h : ((tlT n0 ((kx : Nat) : Int) n1 n2 n3 0).toList == t.toList) = false) => show ptB t = false from Bool.eq_false_iff.2 (fun hp => by rw [(FT.out hp).2] at h; simp at h))
      clear hv HLN FT HYe FA
      generalize tlT n0 ((kx : Nat) : Int) n1 n2 n3 0 = tt at *
      go_wp2_with fail
      refine (HG.out _).mono ?_
      rintro e wf ⟨rfl, hbf⟩
      have ZQ := Lib.hid (ZQ.out.old hbf)
      have NQ := Lib.hid (NQ.out.old hbf)
      have PQ := Lib.hid (PQ.out.old hbf)
      clear hbf p0 p1 p2 p3 p4 p5 HG
      have p0 : wf.cell? ⟨bp, 0, none⟩ = some (.int .i64 n0) := PQ.out.cell 0
      have p1 : wf.cell? ⟨bp, 1, none⟩ = some (.int .i64 ((kx : Nat) : Int)) := PQ.out.cell 1
      have p2 : wf.cell? ⟨bp, 2, none⟩ = some (.int .i64 n1) := PQ.out.cell 2
      have p3 : wf.cell? ⟨bp, 3, none⟩ = some (.int .i64 n2) := PQ.out.cell 3
      have p4 : wf.cell? ⟨bp, 4, none⟩ = some (.int .i64 n3) := PQ.out.cell 4
      have p5 : wf.cell? ⟨bp, 5, none⟩ = some (.int .i64 0) := PQ.out.cell 5
      go_wp2_with fail
      refine (HLV.out _).mono ?_
      rintro e wg ⟨rfl, hbf⟩
      have ZQ := Lib.hid (ZQ.out.old hbf)
      have NQ := Lib.hid (NQ.out.old hbf)
      have PQ := Lib.hid (PQ.out.old hbf)
      clear hbf p0 p1 p2 p3 p4 p5 HLV
      cases hc : (tt.toList == t.toList)
      · have HN6 := Lib.hid (HNN.out hc)
        have HN := Lib.hid (HNo.out (HN6.out))
        have n0 : wg.cell? ⟨(w.heap.size + 1), 0, none⟩ = some (.int .i64 0) := NQ.out.cell 0
        have n1 : wg.cell? ⟨(w.heap.size + 1), 1, none⟩ = some (.int .i64 0) := NQ.out.cell 1
        have n2 : wg.cell? ⟨(w.heap.size + 1), 2, none⟩ = some (.int .i64 0) := NQ.out.cell 2
        have n3 : wg.cell? ⟨(w.heap.size + 1), 3, none⟩ = some (.int .i64 0) := NQ.out.cell 3
        have n4 : wg.cell? ⟨(w.heap.size + 1), 4, none⟩ = some (.int .i64 0) := NQ.out.cell 4
        have n5 : wg.cell? ⟨(w.heap.size + 1), 5, none⟩ = some (.int .i64 0) := NQ.out.cell 5
        have z0 : wg.cell? ⟨w.heap.size, 0, none⟩ = some (.int .i64 0) := ZQ.out.cell 0
        have zf0 := ZQ.out.frozen 0
        have z1 : wg.cell? ⟨w.heap.size, 1, none⟩ = some (.int .i64 0) := ZQ.out.cell 1
        have zf1 := ZQ.out.frozen 1
        have z2 : wg.cell? ⟨w.heap.size, 2, none⟩ = some (.int .i64 0) := ZQ.out.cell 2
        have zf2 := ZQ.out.frozen 2
        have z3 : wg.cell? ⟨w.heap.size, 3, none⟩ = some (.int .i64 0) := ZQ.out.cell 3
        have zf3 := ZQ.out.frozen 3
        have z4 : wg.cell? ⟨w.heap.size, 4, none⟩ = some (.int .i64 0) := ZQ.out.cell 4
        have zf4 := ZQ.out.frozen 4
        have z5 : wg.cell? ⟨w.heap.size, 5, none⟩ = some (.int .i64 0) := ZQ.out.cell 5
        have zf5 := ZQ.out.frozen 5
        have HE := Lib.hid ((((((ZQ.out.set 0 (.int .i64 0)).set 1 (.int .i64 0)).set 2 (.int .i64 0)).set 3 (.int .i64 0)).set 4 (.int .i64 0)).set 5 (.int .i64 0))
        go_wp2_with fail
        have hl := HE.out.load Tryd.underlying38 rfl (by kernel_rfl)
        refine bodyPost_ret (v := .tuple #[.agg #[.int .i64 0, .int .i64 0, .int .i64 0, .int .i64 0, .int .i64 0, .int .i64 0], .bool false]) ?_ rfl ⟨by rw [HN.out.1, HN.out.2.1, HN.out.2.2.1, HN.out.2.2.2.1, HN.out.2.2.2.2.1, HN.out.2.2.2.2.2.1, HN.out.2.2.2.2.2.2], HE.out.1⟩
        rw [results_cell_tmp rfl]
        simp [asAddr, Result.andThen, hl]
      · have HY := Lib.hid (HYY.out hc)
        have p0 : wg.cell? ⟨bp, 0, none⟩ = some (.int .i64 n0) := PQ.out.cell 0
        have p1 : wg.cell? ⟨bp, 1, none⟩ = some (.int .i64 ((kx : Nat) : Int)) := PQ.out.cell 1
        have p2 : wg.cell? ⟨bp, 2, none⟩ = some (.int .i64 n1) := PQ.out.cell 2
        have p3 : wg.cell? ⟨bp, 3, none⟩ = some (.int .i64 n2) := PQ.out.cell 3
        have p4 : wg.cell? ⟨bp, 4, none⟩ = some (.int .i64 n3) := PQ.out.cell 4
        have p5 : wg.cell? ⟨bp, 5, none⟩ = some (.int .i64 0) := PQ.out.cell 5
        have z0 : wg.cell? ⟨w.heap.size, 0, none⟩ = some (.int .i64 0) := ZQ.out.cell 0
        have zf0 := ZQ.out.frozen 0
        have z1 : wg.cell? ⟨w.heap.size, 1, none⟩ = some (.int .i64 0) := ZQ.out.cell 1
        have zf1 := ZQ.out.frozen 1
        have z2 : wg.cell? ⟨w.heap.size, 2, none⟩ = some (.int .i64 0) := ZQ.out.cell 2
        have zf2 := ZQ.out.frozen 2
        have z3 : wg.cell? ⟨w.heap.size, 3, none⟩ = some (.int .i64 0) := ZQ.out.cell 3
        have zf3 := ZQ.out.frozen 3
        have z4 : wg.cell? ⟨w.heap.size, 4, none⟩ = some (.int .i64 0) := ZQ.out.cell 4
        have zf4 := ZQ.out.frozen 4
        have z5 : wg.cell? ⟨w.heap.size, 5, none⟩ = some (.int .i64 0) := ZQ.out.cell 5
        have zf5 := ZQ.out.frozen 5
        have HE := Lib.hid ((((((ZQ.out.set 0 (.int .i64 n0)).set 1 (.int .i64 ((kx : Nat) : Int))).set 2 (.int .i64 n1)).set 3 (.int .i64 n2)).set 4 (.int .i64 n3)).set 5 (.int .i64 0))
        go_wp2_with fail
        have hl := HE.out.load Tryd.underlying38 rfl (by kernel_rfl)
        refine bodyPost_ret (v := .tuple #[.agg #[.int .i64 n0, .int .i64 ((kx : Nat) : Int), .int .i64 n1, .int .i64 n2, .int .i64 n3, .int .i64 0], .bool true]) ?_ rfl ⟨by rw [HY.out.1, HY.out.2.1, HY.out.2.2.1, HY.out.2.2.2.1, HY.out.2.2.2.2.1, HY.out.2.2.2.2.2.1, HY.out.2.2.2.2.2.2], HE.out.1⟩
        rw [results_cell_tmp rfl]
        simp [asAddr, Result.andThen, hl]
  · by_cases hn : xs.length = 8
    · obtain ⟨x0, x1, x2, x3, x4, x5, x6, x7, rfl⟩ := eight hn
      obtain ⟨gw, rfl, hgB, hgw, hcw⟩ := strs_at hown (show 0 < [x0, x1, x2, x3, x4, x5, x6, x7].length by rw [hn]; omega)
      have k0 := hcw 0 x0 rfl
      have k1 := hcw 1 x1 rfl
      have k3 := hcw 3 x3 rfl
      have k5 := hcw 5 x5 rfl
      have k7 := hcw 7 x7 rfl
      have z3 := hsz x3 (by simp)
      have FN0 := Lib.hid (fun (hp : ptB t = true) => of8 hp HPC.out)
      have FN := Lib.hid (fun (hp : ptB t = true) => core hp (FN0.out hp).2.1 (FN0.out hp).2.2.1 (FN0.out hp).2.2.2.1 (FN0.out hp).2.2.2.2)
      clear hown hcw hsz hn
      simp only [List.length_cons, List.length_nil, Nat.zero_add, Nat.reduceAdd]
      have HS2 := Lib.hid (fun w => l1Split x3 44 w z3)
      go_wp2_with fail
      refine (HS2.out _).mono ?_
      rintro e w2 ⟨v, ys, rfl, hown, hb2, hpc⟩
      have HPY := Lib.hid hpc
      have ZQ := Lib.hid (ZQ.out.old hb2)
      have NQ := Lib.hid (NQ.out.old hb2)
      have BX := Lib.hid hb2
      have K1 := Lib.hid (fun (W : World) (hb : Below w1.heap.size w1 W) => (hb.cell (p := ⟨gw, 1, none⟩) hgw).trans k1)
      have K5 := Lib.hid (fun (W : World) (hb : Below w1.heap.size w1 W) => (hb.cell (p := ⟨gw, 5, none⟩) hgw).trans k5)
      have K0 := Lib.hid (fun (W : World) (hb : Below w1.heap.size w1 W) => (hb.cell (p := ⟨gw, 0, none⟩) hgw).trans k0)
      have K7 := Lib.hid (fun (W : World) (hb : Below w1.heap.size w1 W) => (hb.cell (p := ⟨gw, 7, none⟩) hgw).trans k7)
      obtain ⟨A2, c2, rfl⟩ := own_strs hown
      clear hb2 HS2 hpc k0 k1 k3 k5 k7 hgw z3 q1 h60
      by_cases hy2 : ys.length = 2
      rotate_left
      · have q2 : ((ys.length : Int) != 2) = true := by simp; omega
        have HN6 := Lib.hid (Bool.eq_false_iff.2 (fun hp => absurd ((FN.out hp).2.2.2.1 ys HPY.out) hy2))
        generalize ys.length = yl at *
        have HN := Lib.hid (HNo.out (HN6.out))
        have n0 : w2.cell? ⟨(w.heap.size + 1), 0, none⟩ = some (.int .i64 0) := NQ.out.cell 0
        have n1 : w2.cell? ⟨(w.heap.size + 1), 1, none⟩ = some (.int .i64 0) := NQ.out.cell 1
        have n2 : w2.cell? ⟨(w.heap.size + 1), 2, none⟩ = some (.int .i64 0) := NQ.out.cell 2
        have n3 : w2.cell? ⟨(w.heap.size + 1), 3, none⟩ = some (.int .i64 0) := NQ.out.cell 3
        have n4 : w2.cell? ⟨(w.heap.size + 1), 4, none⟩ = some (.int .i64 0) := NQ.out.cell 4
        have n5 : w2.cell? ⟨(w.heap.size + 1), 5, none⟩ = some (.int .i64 0) := NQ.out.cell 5
        have z0 : w2.cell? ⟨w.heap.size, 0, none⟩ = some (.int .i64 0) := ZQ.out.cell 0
        have zf0 := ZQ.out.frozen 0
        have z1 : w2.cell? ⟨w.heap.size, 1, none⟩ = some (.int .i64 0) := ZQ.out.cell 1
        have zf1 := ZQ.out.frozen 1
        have z2 : w2.cell? ⟨w.heap.size, 2, none⟩ = some (.int .i64 0) := ZQ.out.cell 2
        have zf2 := ZQ.out.frozen 2
        have z3 : w2.cell? ⟨w.heap.size, 3, none⟩ = some (.int .i64 0) := ZQ.out.cell 3
        have zf3 := ZQ.out.frozen 3
        have z4 : w2.cell? ⟨w.heap.size, 4, none⟩ = some (.int .i64 0) := ZQ.out.cell 4
        have zf4 := ZQ.out.frozen 4
        have z5 : w2.cell? ⟨w.heap.size, 5, none⟩ = some (.int .i64 0) := ZQ.out.cell 5
        have zf5 := ZQ.out.frozen 5
        have HE := Lib.hid ((((((ZQ.out.set 0 (.int .i64 0)).set 1 (.int .i64 0)).set 2 (.int .i64 0)).set 3 (.int .i64 0)).set 4 (.int .i64 0)).set 5 (.int .i64 0))
        go_wp2_with fail
        have hl := HE.out.load Tryd.underlying38 rfl (by kernel_rfl)
        refine bodyPost_ret (v := .tuple #[.agg #[.int .i64 0, .int .i64 0, .int .i64 0, .int .i64 0, .int .i64 0, .int .i64 0], .bool false]) ?_ rfl ⟨by rw [HN.out.1, HN.out.2.1, HN.out.2.2.1, HN.out.2.2.2.1, HN.out.2.2.2.2.1, HN.out.2.2.2.2.2.1, HN.out.2.2.2.2.2.2], HE.out.1⟩
        rw [results_cell_tmp rfl]
        simp [asAddr, Result.andThen, hl]
      obtain ⟨y0, y1, rfl⟩ := two hy2
      obtain ⟨gy, rfl, -, hgy, hcy⟩ := strs_at hown (show 0 < [y0, y1].length by simp)
      have L0 := Lib.hid (fun (W : World) (hb : Below w2.heap.size w2 W) => (hb.cell (p := ⟨gy, 0, none⟩) hgy).trans (hcy 0 y0 rfl))
      have L1 := Lib.hid (fun (W : World) (hb : Below w2.heap.size w2 W) => (hb.cell (p := ⟨gy, 1, none⟩) hgy).trans (hcy 1 y1 rfl))
      clear hown hcy hy2
      simp only [List.length_cons, List.length_nil, Nat.zero_add, Nat.reduceAdd]
      have FA := Lib.hid (fun (hp : ptB t = true) => And.intro (FN.out hp).1 (And.intro (FN.out hp).2.1 (And.intro (FN.out hp).2.2.1 (And.intro ((FN.out hp).2.2.2.2 y0 y1 HPY.out) (And.intro (FN0.out hp).1 (pt_yes hp))))))
      have R0 := Lib.hid (fun w => l1Read x0 w)
      have R1 := Lib.hid (fun w => l1Read y0 w)
      have R2 := Lib.hid (fun w => l1Read y1 w)
      have R3 := Lib.hid (fun w => l1Read x5 w)
      have R4 := Lib.hid (fun w => l1Read x7 w)
      generalize rdB x0 = b0 at *
      generalize rdN x0 = n0 at *
      generalize rdB y0 = b1 at *
      generalize rdN y0 = n1 at *
      generalize rdB y1 = b2 at *
      generalize rdN y1 = n2 at *
      generalize rdB x5 = b3 at *
      generalize rdN x5 = n3 at *
      generalize rdB x7 = b4 at *
      generalize rdN x7 = n4 at *
      have hk4 := ix4_le x1
      have HIX := Lib.hid (fun (B : Nat) (W : World) (h : Wd W B) => index4 B x1 W h)
      generalize ix4 x1 = kx at *
      clear FN FN0 HPY
      have kk0 := K0.out w2 BX.out
      go_wp2_with fail
      refine (R0.out _).mono ?_
      rintro e u0 ⟨rfl, hb⟩
      have ZQ := Lib.hid (ZQ.out.old hb)
      have NQ := Lib.hid (NQ.out.old hb)
      have BX0 := Lib.hid (BX.out.trans (hb.mono BX.out.size))
      have BY0 := Lib.hid ((Below.refl w2.heap.size w2).trans (hb.mono (Below.refl w2.heap.size w2).size))
      clear hb kk0 BX
      have kk1 := L0.out u0 BY0.out
      go_wp2_with fail
      refine (R1.out _).mono ?_
      rintro e u1 ⟨rfl, hb⟩
      have ZQ := Lib.hid (ZQ.out.old hb)
      have NQ := Lib.hid (NQ.out.old hb)
      have BX1 := Lib.hid (BX0.out.trans (hb.mono BX0.out.size))
      have BY1 := Lib.hid (BY0.out.trans (hb.mono BY0.out.size))
      clear hb kk1 BX0 BY0
      have kk2 := L1.out u1 BY1.out
      go_wp2_with fail
      refine (R2.out _).mono ?_
      rintro e u2 ⟨rfl, hb⟩
      have ZQ := Lib.hid (ZQ.out.old hb)
      have NQ := Lib.hid (NQ.out.old hb)
      have BX2 := Lib.hid (BX1.out.trans (hb.mono BX1.out.size))
      have BY2 := Lib.hid (BY1.out.trans (hb.mono BY1.out.size))
      clear hb kk2 BX1 BY1
      have kk3 := K5.out u2 BX2.out
      go_wp2_with fail
      refine (R3.out _).mono ?_
      rintro e u3 ⟨rfl, hb⟩
      have ZQ := Lib.hid (ZQ.out.old hb)
      have NQ := Lib.hid (NQ.out.old hb)
      have BX3 := Lib.hid (BX2.out.trans (hb.mono BX2.out.size))
      have BY3 := Lib.hid (BY2.out.trans (hb.mono BY2.out.size))
      clear hb kk3 BX2 BY2
      have kk7 := K7.out u3 BX3.out
      go_wp2_with fail
      refine (R4.out _).mono ?_
      rintro e w3 ⟨rfl, hb⟩
      have ZQ := Lib.hid (ZQ.out.old hb)
      have NQ := Lib.hid (NQ.out.old hb)
      have BX := Lib.hid (BX3.out.trans (hb.mono BX3.out.size))
      clear hb kk7 BX3
      have KX := Lib.hid (fun (W : World) (hb : Below w3.heap.size w3 W) => K1.out W (BX.out.trans (hb.mono BX.out.size)))
      have HW14 := Lib.hid (fun (W : World) => words14 W)
      go_upto_region 16 with fail
      go_cut [18] from 81 to 91 (fun v wx => ∃ b, v = .pointer (some ⟨b, 0, none⟩) ∧ AtS 38 #[.int .i64 n0, .int .i64 ((kx : Nat) : Int), .int .i64 n1, .int .i64 n2, .int .i64 n3, .int .i64 n4] w3 wx b)
      case first =>
        have B0 := Lib.hid ((Below.refl w3.heap.size w3).drew)
        refine wp_region_tail (S := fun w' => Below w3.heap.size w3 w') 12 (by kernel_rfl) B0.out (fun hHeld => ?_)
        generalize w3.drew = W0 at *
        try simp only [Act.put]
        refine wpAnyE_take (i := 0) (v := ?vqe0) rfl (by decide +kernel) (fun _ _ _ h => h) (Or.inl ⟨by rfl, ?hqe0⟩) (by assumption) ?rqe0
        case hqe0 =>
          intro wS hSw
          have h0 := KX.out wS hSw
          go_simp
          try with_reducible rfl
        try simp only [Act.put]
        refine wpAnyE_take (i := 2) (v := ?vqe2) rfl (by decide +kernel) (fun _ _ _ h => h) (Or.inl ⟨by rfl, ?hqe2⟩) (by assumption) ?rqe2
        case hqe2 =>
          intro wS hSw
          have h0 := KX.out wS hSw
          go_simp
          try with_reducible rfl
        try simp only [Act.put]
        refine wpAnyE_take (i := 3) (v := ?vqe3) rfl (by decide +kernel) (fun _ _ _ h => h) (Or.inl ⟨by rfl, ?hqe3⟩) (by assumption) ?rqe3
        case hqe3 =>
          intro wS hSw
          have h0 := KX.out wS hSw
          go_simp
          try with_reducible rfl
        try simp only [Act.put]
        refine wpAnyE_take (i := 4) (v := ?vqe4) rfl (by decide +kernel) (fun _ _ _ h => h) (Or.inl ⟨by rfl, ?hqe4⟩) (by assumption) ?rqe4
        case hqe4 =>
          intro wS hSw
          have h0 := KX.out wS hSw
          go_simp
          try with_reducible rfl
        try simp only [Act.put]
        refine wpAnyE_take (i := 6) (v := ?vqe6) rfl (by decide +kernel) (fun _ _ _ h => h) (Or.inl ⟨by rfl, ?hqe6⟩) (by assumption) ?rqe6
        case hqe6 =>
          intro wS hSw
          have h0 := KX.out wS hSw
          go_simp
          try with_reducible rfl
        try simp only [Act.put]
        refine wpAnyE_take (i := 7) (v := ?vqe7) rfl (by decide +kernel) (fun _ _ _ h => h) (Or.inl ⟨by rfl, ?hqe7⟩) (by assumption) ?rqe7
        case hqe7 =>
          intro wS hSw
          have h0 := KX.out wS hSw
          go_simp
          try with_reducible rfl
        try simp only [Act.put]
        refine wpAnyE_take (i := 8) (v := ?vqe8) rfl (by decide +kernel) (fun _ _ _ h => h) (Or.inl ⟨by rfl, ?hqe8⟩) (by assumption) ?rqe8
        case hqe8 =>
          intro wS hSw
          have h0 := KX.out wS hSw
          go_simp
          try with_reducible rfl
        try simp only [Act.put]
        refine wpAnyE_take (i := 9) (v := ?vqe9) rfl (by decide +kernel) (fun _ _ _ h => h) (Or.inl ⟨by rfl, ?hqe9⟩) (by assumption) ?rqe9
        case hqe9 =>
          intro wS hSw
          have h0 := KX.out wS hSw
          go_simp
          try with_reducible rfl
        try simp only [Act.put]
        refine wpAnyE_ready (rs := [1, 11]) (by kernel_rfl) (by simp) ?_
        refine AllReadyE.cons (i := 1) rfl (by decide) (fun K hK => ?_) (AllReadyE.cons (i := 11) rfl (by decide) (fun K hK => ?_) AllReadyE.nil)
        · go_simp
          refine (HW14.out _).mono ?_
          rintro e Wra ⟨rfl, hb, hd⟩
          have Dra := Lib.hid hd
          have Bra := Lib.hid (B0.out.trans (hb.mono B0.out.size))
          clear hb hd
          refine hK.out _ _ Bra.out (fun hHeld => ?_)
          clear hK K
          try simp only [Act.put]
          refine wpAnyE_ready (rs := [5, 11]) (by kernel_rfl) (by simp) ?_
          refine AllReadyE.cons (i := 5) rfl (by decide) (fun K hK => ?_) (AllReadyE.cons (i := 11) rfl (by decide) (fun K hK => ?_) AllReadyE.nil)
          · go_simp
            refine (HIX.out _ _ Dra.out).mono ?_
            rintro e w_ ⟨rfl, hw_⟩
            obtain rfl : Wra = w_ := hw_.symm
            refine hK.out _ _ Bra.out (fun hHeld => ?_)
            clear hK K
            try simp only [Act.put]
            refine wpAnyE_take (i := 10) (v := ?vqrab10) rfl (by decide +kernel) (fun _ _ _ h => h) (Or.inl ⟨by rfl, ?hqrab10⟩) (by assumption) ?rqrab10
            case hqrab10 =>
              intro wS hSw
              have h0 := KX.out wS hSw
              go_simp
              try with_reducible rfl
            try simp only [Act.put]
            refine wpAnyE_ready (rs := [11]) (by kernel_rfl) (by simp) ?_
            refine AllReadyE.cons (i := 11) rfl (by decide) (fun K hK => ?_) AllReadyE.nil
            go_simp
            have Brabc := Lib.hid (Bra.out.alloc Bra.out.size (.cells #[.int .i64 0, .int .i64 0, .int .i64 0, .int .i64 0, .int .i64 0, .int .i64 0] 38))
            have Prabc := Lib.hid (show AtS 38 #[.int .i64 0, .int .i64 0, .int .i64 0, .int .i64 0, .int .i64 0, .int .i64 0] w3 (Wra.alloc (.cells #[.int .i64 0, .int .i64 0, .int .i64 0, .int .i64 0, .int .i64 0, .int .i64 0] 38)) Wra.heap.size from ⟨Brabc.out, Bra.out.size, by rw [World.size_alloc]; omega, heap_alloc_new _ _⟩)
            have Drabc := Lib.hid (Dra.out.old ((Below.refl _ _).alloc (Nat.le_refl _) (.cells #[.int .i64 0, .int .i64 0, .int .i64 0, .int .i64 0, .int .i64 0, .int .i64 0] 38)))
            refine hK.out _ _ Brabc.out (fun hHeld => ?_)
            clear hK K
            try simp only [Act.put]
            generalize Wra.alloc (.cells #[.int .i64 0, .int .i64 0, .int .i64 0, .int .i64 0, .int .i64 0, .int .i64 0] 38) = Vrabc at *
            generalize Wra.heap.size = prabc at *
            have s0 : Vrabc.cell? ⟨prabc, 0, none⟩ = some (.int .i64 0) := Prabc.out.cell 0
            have sf0 := Prabc.out.frozen 0
            have s1 : Vrabc.cell? ⟨prabc, 1, none⟩ = some (.int .i64 0) := Prabc.out.cell 1
            have sf1 := Prabc.out.frozen 1
            have s2 : Vrabc.cell? ⟨prabc, 2, none⟩ = some (.int .i64 0) := Prabc.out.cell 2
            have sf2 := Prabc.out.frozen 2
            have s3 : Vrabc.cell? ⟨prabc, 3, none⟩ = some (.int .i64 0) := Prabc.out.cell 3
            have sf3 := Prabc.out.frozen 3
            have s4 : Vrabc.cell? ⟨prabc, 4, none⟩ = some (.int .i64 0) := Prabc.out.cell 4
            have sf4 := Prabc.out.frozen 4
            have s5 : Vrabc.cell? ⟨prabc, 5, none⟩ = some (.int .i64 0) := Prabc.out.cell 5
            have sf5 := Prabc.out.frozen 5
            refine wpAnyE_ready (rs := [12]) (by kernel_rfl) (by simp) ?_
            refine AllReadyE.last (i := 12) rfl rfl (fun K hK => ?_)
            go_simp
            refine hK.out _ _ ?_
            clear hK K
            try simp only [Act.put]
            refine wpAnyE_done (by kernel_rfl) ?_ _
            try simp only [List.getElem_toArray, List.getElem_cons_succ, List.getElem_cons_zero, List.setIfInBounds_toArray, List.set_cons_succ, List.set_cons_zero]
            go_wp2_with fail
            go_meet
            exact ⟨_, rfl, ((((((Prabc.out.set 0 (.int .i64 n0)).set 1 (.int .i64 ((kx : Nat) : Int))).set 2 (.int .i64 n1)).set 3 (.int .i64 n2)).set 4 (.int .i64 n3)).set 5 (.int .i64 n4))⟩
          · go_simp
            have Brac := Lib.hid (Bra.out.alloc Bra.out.size (.cells #[.int .i64 0, .int .i64 0, .int .i64 0, .int .i64 0, .int .i64 0, .int .i64 0] 38))
            have Prac := Lib.hid (show AtS 38 #[.int .i64 0, .int .i64 0, .int .i64 0, .int .i64 0, .int .i64 0, .int .i64 0] w3 (Wra.alloc (.cells #[.int .i64 0, .int .i64 0, .int .i64 0, .int .i64 0, .int .i64 0, .int .i64 0] 38)) Wra.heap.size from ⟨Brac.out, Bra.out.size, by rw [World.size_alloc]; omega, heap_alloc_new _ _⟩)
            have Drac := Lib.hid (Dra.out.old ((Below.refl _ _).alloc (Nat.le_refl _) (.cells #[.int .i64 0, .int .i64 0, .int .i64 0, .int .i64 0, .int .i64 0, .int .i64 0] 38)))
            refine hK.out _ _ Brac.out (fun hHeld => ?_)
            clear hK K
            try simp only [Act.put]
            generalize Wra.alloc (.cells #[.int .i64 0, .int .i64 0, .int .i64 0, .int .i64 0, .int .i64 0, .int .i64 0] 38) = Vrac at *
            generalize Wra.heap.size = prac at *
            refine wpAnyE_ready (rs := [5]) (by kernel_rfl) (by simp) ?_
            refine AllReadyE.cons (i := 5) rfl (by decide) (fun K hK => ?_) AllReadyE.nil
            go_simp
            refine (HIX.out _ _ Drac.out).mono ?_
            rintro e w_ ⟨rfl, hw_⟩
            obtain rfl : Vrac = w_ := hw_.symm
            refine hK.out _ _ Brac.out (fun hHeld => ?_)
            clear hK K
            try simp only [Act.put]
            refine wpAnyE_take (i := 10) (v := ?vqracb10) rfl (by decide +kernel) (fun _ _ _ h => h) (Or.inl ⟨by rfl, ?hqracb10⟩) (by assumption) ?rqracb10
            case hqracb10 =>
              intro wS hSw
              have h0 := KX.out wS hSw
              go_simp
              try with_reducible rfl
            try simp only [Act.put]
            have s0 : Vrac.cell? ⟨prac, 0, none⟩ = some (.int .i64 0) := Prac.out.cell 0
            have sf0 := Prac.out.frozen 0
            have s1 : Vrac.cell? ⟨prac, 1, none⟩ = some (.int .i64 0) := Prac.out.cell 1
            have sf1 := Prac.out.frozen 1
            have s2 : Vrac.cell? ⟨prac, 2, none⟩ = some (.int .i64 0) := Prac.out.cell 2
            have sf2 := Prac.out.frozen 2
            have s3 : Vrac.cell? ⟨prac, 3, none⟩ = some (.int .i64 0) := Prac.out.cell 3
            have sf3 := Prac.out.frozen 3
            have s4 : Vrac.cell? ⟨prac, 4, none⟩ = some (.int .i64 0) := Prac.out.cell 4
            have sf4 := Prac.out.frozen 4
            have s5 : Vrac.cell? ⟨prac, 5, none⟩ = some (.int .i64 0) := Prac.out.cell 5
            have sf5 := Prac.out.frozen 5
            refine wpAnyE_ready (rs := [12]) (by kernel_rfl) (by simp) ?_
            refine AllReadyE.last (i := 12) rfl rfl (fun K hK => ?_)
            go_simp
            refine hK.out _ _ ?_
            clear hK K
            try simp only [Act.put]
            refine wpAnyE_done (by kernel_rfl) ?_ _
            try simp only [List.getElem_toArray, List.getElem_cons_succ, List.getElem_cons_zero, List.setIfInBounds_toArray, List.set_cons_succ, List.set_cons_zero]
            go_wp2_with fail
            go_meet
            exact ⟨_, rfl, ((((((Prac.out.set 0 (.int .i64 n0)).set 1 (.int .i64 ((kx : Nat) : Int))).set 2 (.int .i64 n1)).set 3 (.int .i64 n2)).set 4 (.int .i64 n3)).set 5 (.int .i64 n4))⟩
        · go_simp
          have Brc := Lib.hid (B0.out.alloc B0.out.size (.cells #[.int .i64 0, .int .i64 0, .int .i64 0, .int .i64 0, .int .i64 0, .int .i64 0] 38))
          have Prc := Lib.hid (show AtS 38 #[.int .i64 0, .int .i64 0, .int .i64 0, .int .i64 0, .int .i64 0, .int .i64 0] w3 (W0.alloc (.cells #[.int .i64 0, .int .i64 0, .int .i64 0, .int .i64 0, .int .i64 0, .int .i64 0] 38)) W0.heap.size from ⟨Brc.out, B0.out.size, by rw [World.size_alloc]; omega, heap_alloc_new _ _⟩)
          refine hK.out _ _ Brc.out (fun hHeld => ?_)
          clear hK K
          try simp only [Act.put]
          generalize W0.alloc (.cells #[.int .i64 0, .int .i64 0, .int .i64 0, .int .i64 0, .int .i64 0, .int .i64 0] 38) = Vrc at *
          generalize W0.heap.size = prc at *
          refine wpAnyE_ready (rs := [1]) (by kernel_rfl) (by simp) ?_
          refine AllReadyE.cons (i := 1) rfl (by decide) (fun K hK => ?_) AllReadyE.nil
          go_simp
          refine (HW14.out _).mono ?_
          rintro e Wrca ⟨rfl, hb, hd⟩
          have Drca := Lib.hid hd
          have Brca := Lib.hid (Brc.out.trans (hb.mono Brc.out.size))
          have Prca := Lib.hid (Prc.out.old hb)
          clear hb hd
          refine hK.out _ _ Brca.out (fun hHeld => ?_)
          clear hK K
          try simp only [Act.put]
          refine wpAnyE_ready (rs := [5]) (by kernel_rfl) (by simp) ?_
          refine AllReadyE.cons (i := 5) rfl (by decide) (fun K hK => ?_) AllReadyE.nil
          go_simp
          refine (HIX.out _ _ Drca.out).mono ?_
          rintro e w_ ⟨rfl, hw_⟩
          obtain rfl : Wrca = w_ := hw_.symm
          refine hK.out _ _ Brca.out (fun hHeld => ?_)
          clear hK K
          try simp only [Act.put]
          refine wpAnyE_take (i := 10) (v := ?vqrcab10) rfl (by decide +kernel) (fun _ _ _ h => h) (Or.inl ⟨by rfl, ?hqrcab10⟩) (by assumption) ?rqrcab10
          case hqrcab10 =>
            intro wS hSw
            have h0 := KX.out wS hSw
            go_simp
            try with_reducible rfl
          try simp only [Act.put]
          have s0 : Wrca.cell? ⟨prc, 0, none⟩ = some (.int .i64 0) := Prca.out.cell 0
          have sf0 := Prca.out.frozen 0
          have s1 : Wrca.cell? ⟨prc, 1, none⟩ = some (.int .i64 0) := Prca.out.cell 1
          have sf1 := Prca.out.frozen 1
          have s2 : Wrca.cell? ⟨prc, 2, none⟩ = some (.int .i64 0) := Prca.out.cell 2
          have sf2 := Prca.out.frozen 2
          have s3 : Wrca.cell? ⟨prc, 3, none⟩ = some (.int .i64 0) := Prca.out.cell 3
          have sf3 := Prca.out.frozen 3
          have s4 : Wrca.cell? ⟨prc, 4, none⟩ = some (.int .i64 0) := Prca.out.cell 4
          have sf4 := Prca.out.frozen 4
          have s5 : Wrca.cell? ⟨prc, 5, none⟩ = some (.int .i64 0) := Prca.out.cell 5
          have sf5 := Prca.out.frozen 5
          refine wpAnyE_ready (rs := [12]) (by kernel_rfl) (by simp) ?_
          refine AllReadyE.last (i := 12) rfl rfl (fun K hK => ?_)
          go_simp
          refine hK.out _ _ ?_
          clear hK K
          try simp only [Act.put]
          refine wpAnyE_done (by kernel_rfl) ?_ _
          try simp only [List.getElem_toArray, List.getElem_cons_succ, List.getElem_cons_zero, List.setIfInBounds_toArray, List.set_cons_succ, List.set_cons_zero]
          go_wp2_with fail
          go_meet
          exact ⟨_, rfl, ((((((Prca.out.set 0 (.int .i64 n0)).set 1 (.int .i64 ((kx : Nat) : Int))).set 2 (.int .i64 n1)).set 3 (.int .i64 n2)).set 4 (.int .i64 n3)).set 5 (.int .i64 n4))⟩
      case rest =>
        obtain ⟨bp, rfl, hPQ⟩ := hcut
        have PQ := Lib.hid hPQ
        have ZQ := Lib.hid (ZQ.out.old hPQ.1)
        have NQ := Lib.hid (NQ.out.old hPQ.1)
        clear hPQ BX KX HW14 HIX
        cases b0
        · have HN6 := Lib.hid (Bool.eq_false_iff.2 (fun hp => by have h9 := (FA.out hp).1.1; cases h9))
          have HN := Lib.hid (HNo.out (HN6.out))
          have n0 : wc.cell? ⟨(w.heap.size + 1), 0, none⟩ = some (.int .i64 0) := NQ.out.cell 0
          have n1 : wc.cell? ⟨(w.heap.size + 1), 1, none⟩ = some (.int .i64 0) := NQ.out.cell 1
          have n2 : wc.cell? ⟨(w.heap.size + 1), 2, none⟩ = some (.int .i64 0) := NQ.out.cell 2
          have n3 : wc.cell? ⟨(w.heap.size + 1), 3, none⟩ = some (.int .i64 0) := NQ.out.cell 3
          have n4 : wc.cell? ⟨(w.heap.size + 1), 4, none⟩ = some (.int .i64 0) := NQ.out.cell 4
          have n5 : wc.cell? ⟨(w.heap.size + 1), 5, none⟩ = some (.int .i64 0) := NQ.out.cell 5
          have z0 : wc.cell? ⟨w.heap.size, 0, none⟩ = some (.int .i64 0) := ZQ.out.cell 0
          have zf0 := ZQ.out.frozen 0
          have z1 : wc.cell? ⟨w.heap.size, 1, none⟩ = some (.int .i64 0) := ZQ.out.cell 1
          have zf1 := ZQ.out.frozen 1
          have z2 : wc.cell? ⟨w.heap.size, 2, none⟩ = some (.int .i64 0) := ZQ.out.cell 2
          have zf2 := ZQ.out.frozen 2
          have z3 : wc.cell? ⟨w.heap.size, 3, none⟩ = some (.int .i64 0) := ZQ.out.cell 3
          have zf3 := ZQ.out.frozen 3
          have z4 : wc.cell? ⟨w.heap.size, 4, none⟩ = some (.int .i64 0) := ZQ.out.cell 4
          have zf4 := ZQ.out.frozen 4
          have z5 : wc.cell? ⟨w.heap.size, 5, none⟩ = some (.int .i64 0) := ZQ.out.cell 5
          have zf5 := ZQ.out.frozen 5
          have HE := Lib.hid ((((((ZQ.out.set 0 (.int .i64 0)).set 1 (.int .i64 0)).set 2 (.int .i64 0)).set 3 (.int .i64 0)).set 4 (.int .i64 0)).set 5 (.int .i64 0))
          go_wp2_with fail
          have hl := HE.out.load Tryd.underlying38 rfl (by kernel_rfl)
          refine bodyPost_ret (v := .tuple #[.agg #[.int .i64 0, .int .i64 0, .int .i64 0, .int .i64 0, .int .i64 0, .int .i64 0], .bool false]) ?_ rfl ⟨by rw [HN.out.1, HN.out.2.1, HN.out.2.2.1, HN.out.2.2.2.1, HN.out.2.2.2.2.1, HN.out.2.2.2.2.2.1, HN.out.2.2.2.2.2.2], HE.out.1⟩
          rw [results_cell_tmp rfl]
          simp [asAddr, Result.andThen, hl]
        cases b1
        · have HN6 := Lib.hid (Bool.eq_false_iff.2 (fun hp => by have h9 := (FA.out hp).2.2.2.1.1.1; cases h9))
          have HN := Lib.hid (HNo.out (HN6.out))
          have n0 : wc.cell? ⟨(w.heap.size + 1), 0, none⟩ = some (.int .i64 0) := NQ.out.cell 0
          have n1 : wc.cell? ⟨(w.heap.size + 1), 1, none⟩ = some (.int .i64 0) := NQ.out.cell 1
          have n2 : wc.cell? ⟨(w.heap.size + 1), 2, none⟩ = some (.int .i64 0) := NQ.out.cell 2
          have n3 : wc.cell? ⟨(w.heap.size + 1), 3, none⟩ = some (.int .i64 0) := NQ.out.cell 3
          have n4 : wc.cell? ⟨(w.heap.size + 1), 4, none⟩ = some (.int .i64 0) := NQ.out.cell 4
          have n5 : wc.cell? ⟨(w.heap.size + 1), 5, none⟩ = some (.int .i64 0) := NQ.out.cell 5
          have z0 : wc.cell? ⟨w.heap.size, 0, none⟩ = some (.int .i64 0) := ZQ.out.cell 0
          have zf0 := ZQ.out.frozen 0
          have z1 : wc.cell? ⟨w.heap.size, 1, none⟩ = some (.int .i64 0) := ZQ.out.cell 1
          have zf1 := ZQ.out.frozen 1
          have z2 : wc.cell? ⟨w.heap.size, 2, none⟩ = some (.int .i64 0) := ZQ.out.cell 2
          have zf2 := ZQ.out.frozen 2
          have z3 : wc.cell? ⟨w.heap.size, 3, none⟩ = some (.int .i64 0) := ZQ.out.cell 3
          have zf3 := ZQ.out.frozen 3
          have z4 : wc.cell? ⟨w.heap.size, 4, none⟩ = some (.int .i64 0) := ZQ.out.cell 4
          have zf4 := ZQ.out.frozen 4
          have z5 : wc.cell? ⟨w.heap.size, 5, none⟩ = some (.int .i64 0) := ZQ.out.cell 5
          have zf5 := ZQ.out.frozen 5
          have HE := Lib.hid ((((((ZQ.out.set 0 (.int .i64 0)).set 1 (.int .i64 0)).set 2 (.int .i64 0)).set 3 (.int .i64 0)).set 4 (.int .i64 0)).set 5 (.int .i64 0))
          go_wp2_with fail
          have hl := HE.out.load Tryd.underlying38 rfl (by kernel_rfl)
          refine bodyPost_ret (v := .tuple #[.agg #[.int .i64 0, .int .i64 0, .int .i64 0, .int .i64 0, .int .i64 0, .int .i64 0], .bool false]) ?_ rfl ⟨by rw [HN.out.1, HN.out.2.1, HN.out.2.2.1, HN.out.2.2.2.1, HN.out.2.2.2.2.1, HN.out.2.2.2.2.2.1, HN.out.2.2.2.2.2.2], HE.out.1⟩
          rw [results_cell_tmp rfl]
          simp [asAddr, Result.andThen, hl]
        cases b2
        · have HN6 := Lib.hid (Bool.eq_false_iff.2 (fun hp => by have h9 := (FA.out hp).2.2.2.1.2.1; cases h9))
          have HN := Lib.hid (HNo.out (HN6.out))
          have n0 : wc.cell? ⟨(w.heap.size + 1), 0, none⟩ = some (.int .i64 0) := NQ.out.cell 0
          have n1 : wc.cell? ⟨(w.heap.size + 1), 1, none⟩ = some (.int .i64 0) := NQ.out.cell 1
          have n2 : wc.cell? ⟨(w.heap.size + 1), 2, none⟩ = some (.int .i64 0) := NQ.out.cell 2
          have n3 : wc.cell? ⟨(w.heap.size + 1), 3, none⟩ = some (.int .i64 0) := NQ.out.cell 3
          have n4 : wc.cell? ⟨(w.heap.size + 1), 4, none⟩ = some (.int .i64 0) := NQ.out.cell 4
          have n5 : wc.cell? ⟨(w.heap.size + 1), 5, none⟩ = some (.int .i64 0) := NQ.out.cell 5
          have z0 : wc.cell? ⟨w.heap.size, 0, none⟩ = some (.int .i64 0) := ZQ.out.cell 0
          have zf0 := ZQ.out.frozen 0
          have z1 : wc.cell? ⟨w.heap.size, 1, none⟩ = some (.int .i64 0) := ZQ.out.cell 1
          have zf1 := ZQ.out.frozen 1
          have z2 : wc.cell? ⟨w.heap.size, 2, none⟩ = some (.int .i64 0) := ZQ.out.cell 2
          have zf2 := ZQ.out.frozen 2
          have z3 : wc.cell? ⟨w.heap.size, 3, none⟩ = some (.int .i64 0) := ZQ.out.cell 3
          have zf3 := ZQ.out.frozen 3
          have z4 : wc.cell? ⟨w.heap.size, 4, none⟩ = some (.int .i64 0) := ZQ.out.cell 4
          have zf4 := ZQ.out.frozen 4
          have z5 : wc.cell? ⟨w.heap.size, 5, none⟩ = some (.int .i64 0) := ZQ.out.cell 5
          have zf5 := ZQ.out.frozen 5
          have HE := Lib.hid ((((((ZQ.out.set 0 (.int .i64 0)).set 1 (.int .i64 0)).set 2 (.int .i64 0)).set 3 (.int .i64 0)).set 4 (.int .i64 0)).set 5 (.int .i64 0))
          go_wp2_with fail
          have hl := HE.out.load Tryd.underlying38 rfl (by kernel_rfl)
          refine bodyPost_ret (v := .tuple #[.agg #[.int .i64 0, .int .i64 0, .int .i64 0, .int .i64 0, .int .i64 0, .int .i64 0], .bool false]) ?_ rfl ⟨by rw [HN.out.1, HN.out.2.1, HN.out.2.2.1, HN.out.2.2.2.1, HN.out.2.2.2.2.1, HN.out.2.2.2.2.2.1, HN.out.2.2.2.2.2.2], HE.out.1⟩
          rw [results_cell_tmp rfl]
          simp [asAddr, Result.andThen, hl]
        cases b3
        · have HN6 := Lib.hid (Bool.eq_false_iff.2 (fun hp => by have h9 := (FA.out hp).2.2.1.1; cases h9))
          have HN := Lib.hid (HNo.out (HN6.out))
          have n0 : wc.cell? ⟨(w.heap.size + 1), 0, none⟩ = some (.int .i64 0) := NQ.out.cell 0
          have n1 : wc.cell? ⟨(w.heap.size + 1), 1, none⟩ = some (.int .i64 0) := NQ.out.cell 1
          have n2 : wc.cell? ⟨(w.heap.size + 1), 2, none⟩ = some (.int .i64 0) := NQ.out.cell 2
          have n3 : wc.cell? ⟨(w.heap.size + 1), 3, none⟩ = some (.int .i64 0) := NQ.out.cell 3
          have n4 : wc.cell? ⟨(w.heap.size + 1), 4, none⟩ = some (.int .i64 0) := NQ.out.cell 4
          have n5 : wc.cell? ⟨(w.heap.size + 1), 5, none⟩ = some (.int .i64 0) := NQ.out.cell 5
          have z0 : wc.cell? ⟨w.heap.size, 0, none⟩ = some (.int .i64 0) := ZQ.out.cell 0
          have zf0 := ZQ.out.frozen 0
          have z1 : wc.cell? ⟨w.heap.size, 1, none⟩ = some (.int .i64 0) := ZQ.out.cell 1
          have zf1 := ZQ.out.frozen 1
          have z2 : wc.cell? ⟨w.heap.size, 2, none⟩ = some (.int .i64 0) := ZQ.out.cell 2
          have zf2 := ZQ.out.frozen 2
          have z3 : wc.cell? ⟨w.heap.size, 3, none⟩ = some (.int .i64 0) := ZQ.out.cell 3
          have zf3 := ZQ.out.frozen 3
          have z4 : wc.cell? ⟨w.heap.size, 4, none⟩ = some (.int .i64 0) := ZQ.out.cell 4
          have zf4 := ZQ.out.frozen 4
          have z5 : wc.cell? ⟨w.heap.size, 5, none⟩ = some (.int .i64 0) := ZQ.out.cell 5
          have zf5 := ZQ.out.frozen 5
          have HE := Lib.hid ((((((ZQ.out.set 0 (.int .i64 0)).set 1 (.int .i64 0)).set 2 (.int .i64 0)).set 3 (.int .i64 0)).set 4 (.int .i64 0)).set 5 (.int .i64 0))
          go_wp2_with fail
          have hl := HE.out.load Tryd.underlying38 rfl (by kernel_rfl)
          refine bodyPost_ret (v := .tuple #[.agg #[.int .i64 0, .int .i64 0, .int .i64 0, .int .i64 0, .int .i64 0, .int .i64 0], .bool false]) ?_ rfl ⟨by rw [HN.out.1, HN.out.2.1, HN.out.2.2.1, HN.out.2.2.2.1, HN.out.2.2.2.2.1, HN.out.2.2.2.2.2.1, HN.out.2.2.2.2.2.2], HE.out.1⟩
          rw [results_cell_tmp rfl]
          simp [asAddr, Result.andThen, hl]
        cases b4
        · have HN6 := Lib.hid (Bool.eq_false_iff.2 (fun hp => by have h9 := (FA.out hp).2.2.2.2.1.1; cases h9))
          have HN := Lib.hid (HNo.out (HN6.out))
          have n0 : wc.cell? ⟨(w.heap.size + 1), 0, none⟩ = some (.int .i64 0) := NQ.out.cell 0
          have n1 : wc.cell? ⟨(w.heap.size + 1), 1, none⟩ = some (.int .i64 0) := NQ.out.cell 1
          have n2 : wc.cell? ⟨(w.heap.size + 1), 2, none⟩ = some (.int .i64 0) := NQ.out.cell 2
          have n3 : wc.cell? ⟨(w.heap.size + 1), 3, none⟩ = some (.int .i64 0) := NQ.out.cell 3
          have n4 : wc.cell? ⟨(w.heap.size + 1), 4, none⟩ = some (.int .i64 0) := NQ.out.cell 4
          have n5 : wc.cell? ⟨(w.heap.size + 1), 5, none⟩ = some (.int .i64 0) := NQ.out.cell 5
          have z0 : wc.cell? ⟨w.heap.size, 0, none⟩ = some (.int .i64 0) := ZQ.out.cell 0
          have zf0 := ZQ.out.frozen 0
          have z1 : wc.cell? ⟨w.heap.size, 1, none⟩ = some (.int .i64 0) := ZQ.out.cell 1
          have zf1 := ZQ.out.frozen 1
          have z2 : wc.cell? ⟨w.heap.size, 2, none⟩ = some (.int .i64 0) := ZQ.out.cell 2
          have zf2 := ZQ.out.frozen 2
          have z3 : wc.cell? ⟨w.heap.size, 3, none⟩ = some (.int .i64 0) := ZQ.out.cell 3
          have zf3 := ZQ.out.frozen 3
          have z4 : wc.cell? ⟨w.heap.size, 4, none⟩ = some (.int .i64 0) := ZQ.out.cell 4
          have zf4 := ZQ.out.frozen 4
          have z5 : wc.cell? ⟨w.heap.size, 5, none⟩ = some (.int .i64 0) := ZQ.out.cell 5
          have zf5 := ZQ.out.frozen 5
          have HE := Lib.hid ((((((ZQ.out.set 0 (.int .i64 0)).set 1 (.int .i64 0)).set 2 (.int .i64 0)).set 3 (.int .i64 0)).set 4 (.int .i64 0)).set 5 (.int .i64 0))
          go_wp2_with fail
          have hl := HE.out.load Tryd.underlying38 rfl (by kernel_rfl)
          refine bodyPost_ret (v := .tuple #[.agg #[.int .i64 0, .int .i64 0, .int .i64 0, .int .i64 0, .int .i64 0, .int .i64 0], .bool false]) ?_ rfl ⟨by rw [HN.out.1, HN.out.2.1, HN.out.2.2.1, HN.out.2.2.2.1, HN.out.2.2.2.2.1, HN.out.2.2.2.2.2.1, HN.out.2.2.2.2.2.2], HE.out.1⟩
          rw [results_cell_tmp rfl]
          simp [asAddr, Result.andThen, hl]
        have FT := Lib.hid (fun (hp : ptB t = true) => show tkB n0 ((kx : Nat) : Int) n1 n2 n3 n4 = true ∧ tlT n0 ((kx : Nat) : Int) n1 n2 n3 n4 = t from by
          obtain ⟨⟨-, g0⟩, g1, ⟨-, g3⟩, ⟨⟨-, gx⟩, -, gy⟩, gl, g6, g7⟩ := FA.out hp
          rw [← g0, ← g1, ← gx, ← gy, ← g3, ← gl.2] at g6 g7
          exact ⟨g6, g7⟩)
        have HG := Lib.hid (fun W => trks.good14 n0 ((kx : Nat) : Int) n1 n2 n3 n4 W)
        have HLN := Lib.hid (fun (W : World) (hv : tkB n0 ((kx : Nat) : Int) n1 n2 n3 n4 = true) => line14 n0 kx n1 n2 n3 n4 W hv hk4)
        have p0 : wc.cell? ⟨bp, 0, none⟩ = some (.int .i64 n0) := PQ.out.cell 0
        have p1 : wc.cell? ⟨bp, 1, none⟩ = some (.int .i64 ((kx : Nat) : Int)) := PQ.out.cell 1
        have p2 : wc.cell? ⟨bp, 2, none⟩ = some (.int .i64 n1) := PQ.out.cell 2
        have p3 : wc.cell? ⟨bp, 3, none⟩ = some (.int .i64 n2) := PQ.out.cell 3
        have p4 : wc.cell? ⟨bp, 4, none⟩ = some (.int .i64 n3) := PQ.out.cell 4
        have p5 : wc.cell? ⟨bp, 5, none⟩ = some (.int .i64 n4) := PQ.out.cell 5
        cases hv : tkB n0 ((kx : Nat) : Int) n1 n2 n3 n4
        · have HN6 := Lib.hid (Bool.eq_false_iff.2 (fun hp => by have h9 := (FT.out hp).1; rw [hv] at h9; cases h9))
          rw [hv] at HG
          clear hv HLN FT
          go_wp2_with fail
          refine (HG.out _).mono ?_
          rintro e wf ⟨rfl, hbf⟩
          have ZQ := Lib.hid (ZQ.out.old hbf)
          have NQ := Lib.hid (NQ.out.old hbf)
          clear hbf p0 p1 p2 p3 p4 p5
          have HN := Lib.hid (HNo.out (HN6.out))
          have n0 : wf.cell? ⟨(w.heap.size + 1), 0, none⟩ = some (.int .i64 0) := NQ.out.cell 0
          have n1 : wf.cell? ⟨(w.heap.size + 1), 1, none⟩ = some (.int .i64 0) := NQ.out.cell 1
          have n2 : wf.cell? ⟨(w.heap.size + 1), 2, none⟩ = some (.int .i64 0) := NQ.out.cell 2
          have n3 : wf.cell? ⟨(w.heap.size + 1), 3, none⟩ = some (.int .i64 0) := NQ.out.cell 3
          have n4 : wf.cell? ⟨(w.heap.size + 1), 4, none⟩ = some (.int .i64 0) := NQ.out.cell 4
          have n5 : wf.cell? ⟨(w.heap.size + 1), 5, none⟩ = some (.int .i64 0) := NQ.out.cell 5
          have z0 : wf.cell? ⟨w.heap.size, 0, none⟩ = some (.int .i64 0) := ZQ.out.cell 0
          have zf0 := ZQ.out.frozen 0
          have z1 : wf.cell? ⟨w.heap.size, 1, none⟩ = some (.int .i64 0) := ZQ.out.cell 1
          have zf1 := ZQ.out.frozen 1
          have z2 : wf.cell? ⟨w.heap.size, 2, none⟩ = some (.int .i64 0) := ZQ.out.cell 2
          have zf2 := ZQ.out.frozen 2
          have z3 : wf.cell? ⟨w.heap.size, 3, none⟩ = some (.int .i64 0) := ZQ.out.cell 3
          have zf3 := ZQ.out.frozen 3
          have z4 : wf.cell? ⟨w.heap.size, 4, none⟩ = some (.int .i64 0) := ZQ.out.cell 4
          have zf4 := ZQ.out.frozen 4
          have z5 : wf.cell? ⟨w.heap.size, 5, none⟩ = some (.int .i64 0) := ZQ.out.cell 5
          have zf5 := ZQ.out.frozen 5
          have HE := Lib.hid ((((((ZQ.out.set 0 (.int .i64 0)).set 1 (.int .i64 0)).set 2 (.int .i64 0)).set 3 (.int .i64 0)).set 4 (.int .i64 0)).set 5 (.int .i64 0))
          go_wp2_with fail
          have hl := HE.out.load Tryd.underlying38 rfl (by kernel_rfl)
          refine bodyPost_ret (v := .tuple #[.agg #[.int .i64 0, .int .i64 0, .int .i64 0, .int .i64 0, .int .i64 0, .int .i64 0], .bool false]) ?_ rfl ⟨by rw [HN.out.1, HN.out.2.1, HN.out.2.2.1, HN.out.2.2.2.1, HN.out.2.2.2.2.1, HN.out.2.2.2.2.2.1, HN.out.2.2.2.2.2.2], HE.out.1⟩
          rw [results_cell_tmp rfl]
          simp [asAddr, Result.andThen, hl]
        have HLV := Lib.hid (fun W => HLN.out W hv)
        rw [hv] at HG
        have HYY := Lib.hid (fun (h : ((tlT n0 ((kx : Nat) : Int) n1 n2 n3 n4).toList == t.toList) = true) => HYe.out n0 ((kx : Nat) : Int) n1 n2 n3 n4 hv (str_of h))
        have HNN := Lib.hid (fun (h : ((tlT n0 ((kx : Nat) : Int) n1 n2 n3 n4).toList == t.toList) = false) => show ptB t = false from Bool.eq_false_iff.2 (fun hp => by rw [(FT.out hp).2] at h; simp at h))
        clear hv HLN FT HYe FA
        generalize tlT n0 ((kx : Nat) : Int) n1 n2 n3 n4 = tt at *
        go_wp2_with fail
        refine (HG.out _).mono ?_
        rintro e wf ⟨rfl, hbf⟩
        have ZQ := Lib.hid (ZQ.out.old hbf)
        have NQ := Lib.hid (NQ.out.old hbf)
        have PQ := Lib.hid (PQ.out.old hbf)
        clear hbf p0 p1 p2 p3 p4 p5 HG
        have p0 : wf.cell? ⟨bp, 0, none⟩ = some (.int .i64 n0) := PQ.out.cell 0
        have p1 : wf.cell? ⟨bp, 1, none⟩ = some (.int .i64 ((kx : Nat) : Int)) := PQ.out.cell 1
        have p2 : wf.cell? ⟨bp, 2, none⟩ = some (.int .i64 n1) := PQ.out.cell 2
        have p3 : wf.cell? ⟨bp, 3, none⟩ = some (.int .i64 n2) := PQ.out.cell 3
        have p4 : wf.cell? ⟨bp, 4, none⟩ = some (.int .i64 n3) := PQ.out.cell 4
        have p5 : wf.cell? ⟨bp, 5, none⟩ = some (.int .i64 n4) := PQ.out.cell 5
        go_wp2_with fail
        refine (HLV.out _).mono ?_
        rintro e wg ⟨rfl, hbf⟩
        have ZQ := Lib.hid (ZQ.out.old hbf)
        have NQ := Lib.hid (NQ.out.old hbf)
        have PQ := Lib.hid (PQ.out.old hbf)
        clear hbf p0 p1 p2 p3 p4 p5 HLV
        cases hc : (tt.toList == t.toList)
        · have HN6 := Lib.hid (HNN.out hc)
          have HN := Lib.hid (HNo.out (HN6.out))
          have n0 : wg.cell? ⟨(w.heap.size + 1), 0, none⟩ = some (.int .i64 0) := NQ.out.cell 0
          have n1 : wg.cell? ⟨(w.heap.size + 1), 1, none⟩ = some (.int .i64 0) := NQ.out.cell 1
          have n2 : wg.cell? ⟨(w.heap.size + 1), 2, none⟩ = some (.int .i64 0) := NQ.out.cell 2
          have n3 : wg.cell? ⟨(w.heap.size + 1), 3, none⟩ = some (.int .i64 0) := NQ.out.cell 3
          have n4 : wg.cell? ⟨(w.heap.size + 1), 4, none⟩ = some (.int .i64 0) := NQ.out.cell 4
          have n5 : wg.cell? ⟨(w.heap.size + 1), 5, none⟩ = some (.int .i64 0) := NQ.out.cell 5
          have z0 : wg.cell? ⟨w.heap.size, 0, none⟩ = some (.int .i64 0) := ZQ.out.cell 0
          have zf0 := ZQ.out.frozen 0
          have z1 : wg.cell? ⟨w.heap.size, 1, none⟩ = some (.int .i64 0) := ZQ.out.cell 1
          have zf1 := ZQ.out.frozen 1
          have z2 : wg.cell? ⟨w.heap.size, 2, none⟩ = some (.int .i64 0) := ZQ.out.cell 2
          have zf2 := ZQ.out.frozen 2
          have z3 : wg.cell? ⟨w.heap.size, 3, none⟩ = some (.int .i64 0) := ZQ.out.cell 3
          have zf3 := ZQ.out.frozen 3
          have z4 : wg.cell? ⟨w.heap.size, 4, none⟩ = some (.int .i64 0) := ZQ.out.cell 4
          have zf4 := ZQ.out.frozen 4
          have z5 : wg.cell? ⟨w.heap.size, 5, none⟩ = some (.int .i64 0) := ZQ.out.cell 5
          have zf5 := ZQ.out.frozen 5
          have HE := Lib.hid ((((((ZQ.out.set 0 (.int .i64 0)).set 1 (.int .i64 0)).set 2 (.int .i64 0)).set 3 (.int .i64 0)).set 4 (.int .i64 0)).set 5 (.int .i64 0))
          go_wp2_with fail
          have hl := HE.out.load Tryd.underlying38 rfl (by kernel_rfl)
          refine bodyPost_ret (v := .tuple #[.agg #[.int .i64 0, .int .i64 0, .int .i64 0, .int .i64 0, .int .i64 0, .int .i64 0], .bool false]) ?_ rfl ⟨by rw [HN.out.1, HN.out.2.1, HN.out.2.2.1, HN.out.2.2.2.1, HN.out.2.2.2.2.1, HN.out.2.2.2.2.2.1, HN.out.2.2.2.2.2.2], HE.out.1⟩
          rw [results_cell_tmp rfl]
          simp [asAddr, Result.andThen, hl]
        · have HY := Lib.hid (HYY.out hc)
          have p0 : wg.cell? ⟨bp, 0, none⟩ = some (.int .i64 n0) := PQ.out.cell 0
          have p1 : wg.cell? ⟨bp, 1, none⟩ = some (.int .i64 ((kx : Nat) : Int)) := PQ.out.cell 1
          have p2 : wg.cell? ⟨bp, 2, none⟩ = some (.int .i64 n1) := PQ.out.cell 2
          have p3 : wg.cell? ⟨bp, 3, none⟩ = some (.int .i64 n2) := PQ.out.cell 3
          have p4 : wg.cell? ⟨bp, 4, none⟩ = some (.int .i64 n3) := PQ.out.cell 4
          have p5 : wg.cell? ⟨bp, 5, none⟩ = some (.int .i64 n4) := PQ.out.cell 5
          have z0 : wg.cell? ⟨w.heap.size, 0, none⟩ = some (.int .i64 0) := ZQ.out.cell 0
          have zf0 := ZQ.out.frozen 0
          have z1 : wg.cell? ⟨w.heap.size, 1, none⟩ = some (.int .i64 0) := ZQ.out.cell 1
          have zf1 := ZQ.out.frozen 1
          have z2 : wg.cell? ⟨w.heap.size, 2, none⟩ = some (.int .i64 0) := ZQ.out.cell 2
          have zf2 := ZQ.out.frozen 2
          have z3 : wg.cell? ⟨w.heap.size, 3, none⟩ = some (.int .i64 0) := ZQ.out.cell 3
          have zf3 := ZQ.out.frozen 3
          have z4 : wg.cell? ⟨w.heap.size, 4, none⟩ = some (.int .i64 0) := ZQ.out.cell 4
          have zf4 := ZQ.out.frozen 4
          have z5 : wg.cell? ⟨w.heap.size, 5, none⟩ = some (.int .i64 0) := ZQ.out.cell 5
          have zf5 := ZQ.out.frozen 5
          have HE := Lib.hid ((((((ZQ.out.set 0 (.int .i64 n0)).set 1 (.int .i64 ((kx : Nat) : Int))).set 2 (.int .i64 n1)).set 3 (.int .i64 n2)).set 4 (.int .i64 n3)).set 5 (.int .i64 n4))
          go_wp2_with fail
          have hl := HE.out.load Tryd.underlying38 rfl (by kernel_rfl)
          refine bodyPost_ret (v := .tuple #[.agg #[.int .i64 n0, .int .i64 ((kx : Nat) : Int), .int .i64 n1, .int .i64 n2, .int .i64 n3, .int .i64 n4], .bool true]) ?_ rfl ⟨by rw [HY.out.1, HY.out.2.1, HY.out.2.2.1, HY.out.2.2.2.1, HY.out.2.2.2.2.1, HY.out.2.2.2.2.2.1, HY.out.2.2.2.2.2.2], HE.out.1⟩
          rw [results_cell_tmp rfl]
          simp [asAddr, Result.andThen, hl]
    · rename_i hn6
      have q2 : ((xs.length : Int) != 6) = true := by simp; omega
      have q3 : ((xs.length : Int) != 8) = true := by simp; omega
      have HN6 := Lib.hid (Bool.eq_false_iff.2 (fun hp => by rcases sp_len hp HPC.out with h | h; exact hn6 h; exact hn h))
      generalize xs.length = xl at *
      have HN := Lib.hid (HNo.out (HN6.out))
      have n0 : w1.cell? ⟨(w.heap.size + 1), 0, none⟩ = some (.int .i64 0) := NQ.out.cell 0
      have n1 : w1.cell? ⟨(w.heap.size + 1), 1, none⟩ = some (.int .i64 0) := NQ.out.cell 1
      have n2 : w1.cell? ⟨(w.heap.size + 1), 2, none⟩ = some (.int .i64 0) := NQ.out.cell 2
      have n3 : w1.cell? ⟨(w.heap.size + 1), 3, none⟩ = some (.int .i64 0) := NQ.out.cell 3
      have n4 : w1.cell? ⟨(w.heap.size + 1), 4, none⟩ = some (.int .i64 0) := NQ.out.cell 4
      have n5 : w1.cell? ⟨(w.heap.size + 1), 5, none⟩ = some (.int .i64 0) := NQ.out.cell 5
      have z0 : w1.cell? ⟨w.heap.size, 0, none⟩ = some (.int .i64 0) := ZQ.out.cell 0
      have zf0 := ZQ.out.frozen 0
      have z1 : w1.cell? ⟨w.heap.size, 1, none⟩ = some (.int .i64 0) := ZQ.out.cell 1
      have zf1 := ZQ.out.frozen 1
      have z2 : w1.cell? ⟨w.heap.size, 2, none⟩ = some (.int .i64 0) := ZQ.out.cell 2
      have zf2 := ZQ.out.frozen 2
      have z3 : w1.cell? ⟨w.heap.size, 3, none⟩ = some (.int .i64 0) := ZQ.out.cell 3
      have zf3 := ZQ.out.frozen 3
      have z4 : w1.cell? ⟨w.heap.size, 4, none⟩ = some (.int .i64 0) := ZQ.out.cell 4
      have zf4 := ZQ.out.frozen 4
      have z5 : w1.cell? ⟨w.heap.size, 5, none⟩ = some (.int .i64 0) := ZQ.out.cell 5
      have zf5 := ZQ.out.frozen 5
      have HE := Lib.hid ((((((ZQ.out.set 0 (.int .i64 0)).set 1 (.int .i64 0)).set 2 (.int .i64 0)).set 3 (.int .i64 0)).set 4 (.int .i64 0)).set 5 (.int .i64 0))
      go_wp2_with fail
      have hl := HE.out.load Tryd.underlying38 rfl (by kernel_rfl)
      refine bodyPost_ret (v := .tuple #[.agg #[.int .i64 0, .int .i64 0, .int .i64 0, .int .i64 0, .int .i64 0, .int .i64 0], .bool false]) ?_ rfl ⟨by rw [HN.out.1, HN.out.2.1, HN.out.2.2.1, HN.out.2.2.2.1, HN.out.2.2.2.2.1, HN.out.2.2.2.2.2.1, HN.out.2.2.2.2.2.2], HE.out.1⟩
      rw [results_cell_tmp rfl]
      simp [asAddr, Result.andThen, hl]

end Go.Proofs.YtedocpocfpopgaaDoor.trkb
