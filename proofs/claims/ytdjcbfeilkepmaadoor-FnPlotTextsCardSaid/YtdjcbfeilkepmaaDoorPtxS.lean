/- spec's ParsePlot. -/
import Derived.Test.YtdjcbfeilkepmaaDoorPtxI
import Derived.Test.YtdjcbfeilkepmaaDoorTailH
namespace Go.Proofs.YtdjcbfeilkepmaaDoor.ptxs
open Go.RowKit Go.Proofs.YtdjcbfeilkepmaaDoor.num Go.Proofs.YtdjcbfeilkepmaaDoor.read Go.Proofs.YtdjcbfeilkepmaaDoor.ints Go.Proofs.YtdjcbfeilkepmaaDoor.lst Go.Proofs.YtdjcbfeilkepmaaDoor.ats Go.Proofs.YtdjcbfeilkepmaaDoor.plt Go.Proofs.YtdjcbfeilkepmaaDoor.pltm Go.Proofs.YtdjcbfeilkepmaaDoor.ptx Go.Proofs.YtdjcbfeilkepmaaDoor.ptxt Go.Proofs.YtdjcbfeilkepmaaDoor.ptxi Go.Proofs.YtdjcbfeilkepmaaDoor.rws Go.Proofs.YtdjcbfeilkepmaaDoor.split_ Go.Proofs.YtdjcbfeilkepmaaDoor.tailh

theorem l1Read (s : ByteArray) (w : World) :
    Calls Tryd.prog 44 #[.string s] w fun e w' => e = .returned (.tuple #[.int .i64 (rdN s), .bool (rdB s)]) ∧ ∃ j, w' = w.drewN j := by
  rcases Nat.lt_or_ge 1 s.size with h1 | h1
  · cases h : ((s[0].toNat : Int) == 45)
    · exact spec_pos s w (.inr ⟨by omega, h⟩)
    · exact spec_neg s w h1 h
  · exact spec_pos s w (.inl h1)
theorem sub_list (s : ByteArray) (a b : Nat) : (s.extract a b).data.toList = (s.data.toList.drop a).take (b - a) := by
  obtain ⟨⟨l⟩⟩ := s
  rw [show (⟨⟨l⟩⟩ : ByteArray) = ByteArray.mk l.toArray from rfl, Go.ByteArray.extract_mk]
theorem ext_last {a x : ByteArray} {c : UInt8} {m : Nat} (hx : x = a ++ ⟨#[c]⟩) (hm : x.size = m + 1) : x.extract 0 m = a := by
  subst hx
  rw [ByteArray.size_append] at hm
  have h1 : a.size = m := by
    have : (⟨#[c]⟩ : ByteArray).size = 1 := rfl
    omega
  refine aid.str_ext ?_
  rw [sub_list, aid.str_app, List.drop_zero, Nat.sub_zero, List.take_append_of_le_length (by rw [len_list]; omega), List.take_of_length_le (by rw [len_list]; omega)]
theorem six {xs : List ByteArray} (h : xs.length = 6) : ∃ a b c d e f, xs = [a, b, c, d, e, f] := by
  match xs, h with
  | [a, b, c, d, e, f], _ => exact ⟨a, b, c, d, e, f, rfl⟩
theorem two {xs : List ByteArray} (h : xs.length = 2) : ∃ a b, xs = [a, b] := by
  match xs, h with
  | [a, b], _ => exact ⟨a, b, rfl⟩
/-- The words of a text that is a plot's. -/
theorem sp1 {t : ByteArray} {xs : List ByteArray} (h : ppB t = true) (hx : xs.map (·.data.toList) = pieces 32 t.data.toList []) : t.size ≤ 60 ∧ xs.length = 6 := by
  obtain ⟨hv, ht⟩ := pp_yes h
  have hw := words rfl hv
  have hz := ptx_size rfl hv
  rw [ht] at hw hz
  rw [hw] at hx
  have := congrArg List.length hx
  rw [List.length_map] at this
  exact ⟨hz, this⟩
theorem sp2 {t x0 x1 x2 x3 x4 x5 : ByteArray} (h : ppB t = true) (hx : [x0, x1, x2, x3, x4, x5].map (·.data.toList) = pieces 32 t.data.toList []) :
    x0 = txt (rS t) ++ ⟨#[58]⟩ ∧ x1 = txt (rA t) ∧ x3 = txt (rX t) ++ ⟨#[47]⟩ ++ txt (rY t) ∧ x5.data.toList = (rL t).map dgc := by
  obtain ⟨hv, ht⟩ := pp_yes h
  have hw := words rfl hv
  rw [ht] at hw
  rw [hw] at hx
  simp only [List.map_cons, List.map_nil, List.cons.injEq, and_true] at hx
  exact ⟨aid.str_ext hx.1, aid.str_ext hx.2.1, aid.str_ext hx.2.2.2.1, hx.2.2.2.2.2⟩
theorem sp3 {t x0 x1 x2 x3 x4 x5 : ByteArray} {m : Nat} (h : ppB t = true) (hx : [x0, x1, x2, x3, x4, x5].map (·.data.toList) = pieces 32 t.data.toList []) :
    2 ≤ x0.size ∧ (x0.size = m + 1 → rdB (x0.extract 0 m) = true ∧ rdN (x0.extract 0 m) = rS t) ∧ (rdB x1 = true ∧ rdN x1 = rA t) ∧ st x5.data.toList = rL t := by
  obtain ⟨h0, h1, -, h5⟩ := sp2 h hx
  obtain ⟨hv, -⟩ := pp_yes h
  obtain ⟨hs, ha, hp, hn, hr⟩ := plB_yes hv
  refine ⟨?_, fun hm => ?_, ?_, ?_⟩
  · rw [h0, ByteArray.size_append]
    have := (txt_len (n := rS t) (by omega) (by omega)).1
    rw [len_list] at this
    show 2 ≤ _ + 1
    omega
  · rw [ext_last h0 hm]
    exact hgtt.rdN_txt (by omega) (by omega)
  · rw [h1]
    exact hgtt.rdN_txt (by omega) (by omega)
  · rw [h5]; exact st_dgc (ri_mem rfl hr)
theorem sp4 {t x0 x1 x2 x3 x4 x5 : ByteArray} {ys : List ByteArray} (h : ppB t = true) (hx : [x0, x1, x2, x3, x4, x5].map (·.data.toList) = pieces 32 t.data.toList []) (hy : ys.map (·.data.toList) = pieces 47 x3.data.toList []) : ys.length = 2 := by
  obtain ⟨-, -, h3, -⟩ := sp2 h hx
  obtain ⟨hv, -⟩ := pp_yes h
  obtain ⟨hs, ha, hp, hn, hr⟩ := plB_yes hv
  rw [h3, places (by omega) (by omega)] at hy
  have := congrArg List.length hy
  rw [List.length_map] at this
  exact this
theorem sp5 {t x0 x1 x2 x3 x4 x5 y0 y1 : ByteArray} (h : ppB t = true) (hx : [x0, x1, x2, x3, x4, x5].map (·.data.toList) = pieces 32 t.data.toList []) (hy : [y0, y1].map (·.data.toList) = pieces 47 x3.data.toList []) : (rdB y0 = true ∧ rdN y0 = rX t) ∧ rdB y1 = true ∧ rdN y1 = rY t := by
  obtain ⟨-, -, h3, -⟩ := sp2 h hx
  obtain ⟨hv, -⟩ := pp_yes h
  obtain ⟨hs, ha, hp, hn, hr⟩ := plB_yes hv
  rw [h3, places (by omega) (by omega)] at hy
  simp only [List.map_cons, List.map_nil, List.cons.injEq, and_true] at hy
  rw [aid.str_ext hy.1, aid.str_ext hy.2]
  exact ⟨hgtt.rdN_txt (by omega) (by omega), hgtt.rdN_txt (by omega) (by omega)⟩
theorem pieces_size (b : UInt8) : ∀ (l cur x : List UInt8), x ∈ pieces b l cur → x.length ≤ cur.length + l.length
  | [], cur, x, h => by
    simp [pieces] at h
    subst h
    omega
  | c :: l, cur, x, h => by
    rw [pieces] at h
    by_cases e : c = b
    · rw [if_pos e] at h
      rcases List.mem_cons.1 h with rfl | h
      · simp only [List.length_cons]; omega
      · have := pieces_size b l [] x h
        simp only [List.length_nil, List.length_cons] at *
        omega
    · rw [if_neg e] at h
      have := pieces_size b l (cur ++ [c]) x h
      simp only [List.length_append, List.length_cons, List.length_nil] at *
      omega
theorem xs_size {s : ByteArray} {xs : List ByteArray} (h : xs.map (·.data.toList) = pieces 32 s.data.toList []) {x : ByteArray} (hx : x ∈ xs) : x.size ≤ s.size := by
  have hm : x.data.toList ∈ pieces 32 s.data.toList [] := by rw [← h]; exact List.mem_map.2 ⟨x, hx, rfl⟩
  have := pieces_size 32 _ _ _ hm
  rw [len_list, len_list] at this
  simpa using this
theorem own_ne {w : World} {B e s n b : Nat} {v : Value} {xs : List Value} {cs : Array Value} {T : TypeId} {fr : Nat × Nat} (h : w.ownsRow B e s v n xs) (hb : w.heap[b]? = some (.cells cs T fr)) (hT : e ≠ T) : v.ownBlock ≠ some b := by
  rcases h.2 with ⟨rfl, _⟩ | ⟨g, cap, cur, rfl, _, hh, _⟩
  · intro e; cases e
  · intro e1
    injection e1 with e1
    subst e1
    rw [hh] at hb
    injection hb with hb
    injection hb with _ hb
    exact hT hb
theorem own_strs {w : World} {B e n : Nat} {v : Value} {xs : List ByteArray} (h : w.ownsRow B e 1 v n (xs.map Value.string)) : ∃ A c, v = .slice A n c := by
  rcases h.2 with ⟨rfl, h0⟩ | ⟨g, cap, cur, rfl, _⟩
  · exact ⟨_, _, by rw [h0]⟩
  · exact ⟨_, _, rfl⟩
theorem strs_at {w : World} {B e n c : Nat} {A : Option Addr} {xs : List ByteArray} (h : w.ownsRow B e 1 (.slice A n c) n (xs.map Value.string)) (h0 : 0 < n) : ∃ g, A = some ⟨g, 0, none⟩ ∧ B ≤ g ∧ g < w.heap.size ∧ ∀ k x, xs[k]? = some x → w.cell? ⟨g, k, none⟩ = some (.string x) := by
  rcases h.2 with ⟨_, e⟩ | ⟨g, cap, cur, hv, hB, hh, _⟩
  · omega
  · injection hv with hA
    subst hA
    refine ⟨g, rfl, hB, (Array.getElem?_eq_some_iff.1 hh).1, fun k x hx => ?_⟩
    have h2 := h.cells (g := g) rfl k (.string x) (by rw [List.getElem?_map, hx]; rfl)
    rw [Addr.add_lit] at h2
    simpa using h2

set_option maxRecDepth 100000 in
set_option maxHeartbeats 16000000 in
theorem parsePlotS (t : ByteArray) (w : World) (hs : t.size ≤ 1048576) :
    Calls Tryd.prog 14 #[.string t] w fun e w' => ∃ v, e = .returned (.tuple #[.agg #[.int .i64 (pS t), .int .i64 (pA t), .int .i64 (pX t), .int .i64 (pY t), v], .bool (ppB t)]) ∧ w'.ownsRow w.heap.size 3 1 v (pL t).length (cellsI (pL t)) ∧ Below w.heap.size w w' := by
  obtain ⟨iI, hiI, hzI0, hzI1, hzI2⟩ := info_parts infoI
  have HNo := Lib.hid (fun (h : ppB t = false) => show pS t = 0 ∧ pA t = 0 ∧ pX t = 0 ∧ pY t = 0 ∧ pL t = [] ∧ ppB t = false from ⟨(p_no h).1, (p_no h).2.1, (p_no h).2.2.1, (p_no h).2.2.2.1, (p_no h).2.2.2.2, h⟩)
  have HYe := Lib.hid (fun s a x y L m (hl : List.length L = m) (h : plB s a x y L m = true) (ht : ((ptxT s a x y L m).toList == t.toList) = true) => show pS t = s ∧ pA t = a ∧ pX t = x ∧ pY t = y ∧ pL t = L ∧ ppB t = true from by
    obtain ⟨h1, h2, h3, h4, h5, h6⟩ := pp_text hl h (str_of ht)
    obtain ⟨g1, g2, g3, g4, g5⟩ := p_yes h1
    exact ⟨g1.trans h2, g2.trans h3, g3.trans h4, g4.trans h5, g5.trans h6, h1⟩)
  have HS := Lib.hid (fun w => l1Split t 32 w hs)
  have Z0 := Lib.hid ((newS 28 #[.int .i64 0, .int .i64 0, .int .i64 0, .int .i64 0, .slice none 0 0] w).alloc (.cells #[.int .i64 0, .int .i64 0, .int .i64 0, .int .i64 0, .slice none 0 0] 28))
  have V0 := (newS 28 #[.int .i64 0, .int .i64 0, .int .i64 0, .int .i64 0, .slice none 0 0] w).next 28 #[.int .i64 0, .int .i64 0, .int .i64 0, .int .i64 0, .slice none 0 0]
  rw [World.size_alloc] at V0
  have V0 := Lib.hid V0
  have HZ := Lib.hid (show ((w.alloc (.cells #[.int .i64 0, .int .i64 0, .int .i64 0, .int .i64 0, .slice none 0 0] 28)).alloc (.cells #[.int .i64 0, .int .i64 0, .int .i64 0, .int .i64 0, .slice none 0 0] 28)).heap.size = w.heap.size + 1 + 1 by rw [World.size_alloc, World.size_alloc])
  have hsi : (t.size : Int) ≤ 1048576 := by omega
  go_enter Tryd.func14, Tryd.ntmps14
  go_wp2_with fail
  generalize (w.alloc (.cells #[.int .i64 0, .int .i64 0, .int .i64 0, .int .i64 0, .slice none 0 0] 28)).alloc (.cells #[.int .i64 0, .int .i64 0, .int .i64 0, .int .i64 0, .slice none 0 0] 28) = W at *
  refine (HS.out _).mono ?_
  rintro e w1 ⟨v, xs, rfl, hown, hb1, hpc⟩
  have ZQ := Lib.hid (Z0.out.old hb1)
  have NQ := Lib.hid (V0.out.old hb1)
  have HPC := Lib.hid hpc
  have hsz : ∀ t' ∈ xs, t'.size ≤ 1048576 := fun t' ht => Nat.le_trans (xs_size hpc ht) hs
  obtain ⟨A, c, rfl⟩ := own_strs hown
  clear hb1 Z0 V0 HS hpc
  by_cases h60 : t.size ≤ 60
  rotate_left
  · have q1 : decide ((60 : Int) < (t.size : Int)) = true := decide_eq_true (by omega)
    have HN := Lib.hid (HNo.out (Bool.eq_false_iff.2 (fun hp => absurd (sp1 hp HPC.out).1 h60)))
    have n0 : w1.cell? ⟨(w.heap.size + 1), 0, none⟩ = some (.int .i64 0) := NQ.out.cell 0
    have n1 : w1.cell? ⟨(w.heap.size + 1), 1, none⟩ = some (.int .i64 0) := NQ.out.cell 1
    have n2 : w1.cell? ⟨(w.heap.size + 1), 2, none⟩ = some (.int .i64 0) := NQ.out.cell 2
    have n3 : w1.cell? ⟨(w.heap.size + 1), 3, none⟩ = some (.int .i64 0) := NQ.out.cell 3
    have n4 : w1.cell? ⟨(w.heap.size + 1), 4, none⟩ = some (.slice none 0 0) := NQ.out.cell 4
    have z0 : w1.cell? ⟨w.heap.size, 0, none⟩ = some (.int .i64 0) := ZQ.out.cell 0
    have zf0 := ZQ.out.frozen 0
    have z1 : w1.cell? ⟨w.heap.size, 1, none⟩ = some (.int .i64 0) := ZQ.out.cell 1
    have zf1 := ZQ.out.frozen 1
    have z2 : w1.cell? ⟨w.heap.size, 2, none⟩ = some (.int .i64 0) := ZQ.out.cell 2
    have zf2 := ZQ.out.frozen 2
    have z3 : w1.cell? ⟨w.heap.size, 3, none⟩ = some (.int .i64 0) := ZQ.out.cell 3
    have zf3 := ZQ.out.frozen 3
    have z4 : w1.cell? ⟨w.heap.size, 4, none⟩ = some (.slice none 0 0) := ZQ.out.cell 4
    have zf4 := ZQ.out.frozen 4
    have HE := Lib.hid (((((ZQ.out.set 0 (.int .i64 0)).set 1 (.int .i64 0)).set 2 (.int .i64 0)).set 3 (.int .i64 0)).set 4 (.slice none 0 0))
    go_wp2_with fail
    have hl := HE.out.load Tryd.underlying28 rfl (by kernel_rfl)
    refine bodyPost_ret (v := .tuple #[.agg #[.int .i64 0, .int .i64 0, .int .i64 0, .int .i64 0, .slice none 0 0], .bool false]) ?_ rfl ⟨.slice none 0 0, by rw [HN.out.1, HN.out.2.1, HN.out.2.2.1, HN.out.2.2.2.1, HN.out.2.2.2.2.2], by rw [HN.out.2.2.2.2.1]; exact World.ownsRow_nil .., HE.out.1⟩
    rw [results_cell_tmp rfl]
    simp [asAddr, Result.andThen, hl]
  have q1 : decide ((60 : Int) < (t.size : Int)) = false := decide_eq_false (by omega)
  by_cases h6 : xs.length = 6
  rotate_left
  · have q2 : ((xs.length : Int) != 6) = true := by simp; omega
    have HN6 := Lib.hid (Bool.eq_false_iff.2 (fun hp => absurd (sp1 hp HPC.out).2 h6))
    generalize xs.length = xl at *
    have HN := Lib.hid (HNo.out (HN6.out))
    have n0 : w1.cell? ⟨(w.heap.size + 1), 0, none⟩ = some (.int .i64 0) := NQ.out.cell 0
    have n1 : w1.cell? ⟨(w.heap.size + 1), 1, none⟩ = some (.int .i64 0) := NQ.out.cell 1
    have n2 : w1.cell? ⟨(w.heap.size + 1), 2, none⟩ = some (.int .i64 0) := NQ.out.cell 2
    have n3 : w1.cell? ⟨(w.heap.size + 1), 3, none⟩ = some (.int .i64 0) := NQ.out.cell 3
    have n4 : w1.cell? ⟨(w.heap.size + 1), 4, none⟩ = some (.slice none 0 0) := NQ.out.cell 4
    have z0 : w1.cell? ⟨w.heap.size, 0, none⟩ = some (.int .i64 0) := ZQ.out.cell 0
    have zf0 := ZQ.out.frozen 0
    have z1 : w1.cell? ⟨w.heap.size, 1, none⟩ = some (.int .i64 0) := ZQ.out.cell 1
    have zf1 := ZQ.out.frozen 1
    have z2 : w1.cell? ⟨w.heap.size, 2, none⟩ = some (.int .i64 0) := ZQ.out.cell 2
    have zf2 := ZQ.out.frozen 2
    have z3 : w1.cell? ⟨w.heap.size, 3, none⟩ = some (.int .i64 0) := ZQ.out.cell 3
    have zf3 := ZQ.out.frozen 3
    have z4 : w1.cell? ⟨w.heap.size, 4, none⟩ = some (.slice none 0 0) := ZQ.out.cell 4
    have zf4 := ZQ.out.frozen 4
    have HE := Lib.hid (((((ZQ.out.set 0 (.int .i64 0)).set 1 (.int .i64 0)).set 2 (.int .i64 0)).set 3 (.int .i64 0)).set 4 (.slice none 0 0))
    go_wp2_with fail
    have hl := HE.out.load Tryd.underlying28 rfl (by kernel_rfl)
    refine bodyPost_ret (v := .tuple #[.agg #[.int .i64 0, .int .i64 0, .int .i64 0, .int .i64 0, .slice none 0 0], .bool false]) ?_ rfl ⟨.slice none 0 0, by rw [HN.out.1, HN.out.2.1, HN.out.2.2.1, HN.out.2.2.2.1, HN.out.2.2.2.2.2], by rw [HN.out.2.2.2.2.1]; exact World.ownsRow_nil .., HE.out.1⟩
    rw [results_cell_tmp rfl]
    simp [asAddr, Result.andThen, hl]
  obtain ⟨x0, x1, x2, x3, x4, x5, rfl⟩ := six h6
  obtain ⟨gw, rfl, hgB, hgw, hcw⟩ := strs_at hown (show 0 < [x0, x1, x2, x3, x4, x5].length by rw [h6]; omega)
  have k0 := hcw 0 x0 rfl
  have k1 := hcw 1 x1 rfl
  have k3 := hcw 3 x3 rfl
  have k5 := hcw 5 x5 rfl
  have z0 := hsz x0 (by simp)
  have z1 := hsz x1 (by simp)
  have z3 := hsz x3 (by simp)
  have z5' := hsz x5 (by simp)
  clear hown hcw hsz h6
  simp only [List.length_cons, List.length_nil, Nat.zero_add, Nat.reduceAdd]
  by_cases h2 : x0.size < 2
  · have q3 : decide ((x0.size : Int) < 2) = true := decide_eq_true (by omega)
    have q4 : (x0.size : Int) < 2 := by omega
    have HN6 := Lib.hid (Bool.eq_false_iff.2 (fun hp => by have := (sp3 (m := 0) hp HPC.out).1; omega))
    clear k1 k3 k5
    have HN := Lib.hid (HNo.out (HN6.out))
    have n0 : w1.cell? ⟨(w.heap.size + 1), 0, none⟩ = some (.int .i64 0) := NQ.out.cell 0
    have n1 : w1.cell? ⟨(w.heap.size + 1), 1, none⟩ = some (.int .i64 0) := NQ.out.cell 1
    have n2 : w1.cell? ⟨(w.heap.size + 1), 2, none⟩ = some (.int .i64 0) := NQ.out.cell 2
    have n3 : w1.cell? ⟨(w.heap.size + 1), 3, none⟩ = some (.int .i64 0) := NQ.out.cell 3
    have n4 : w1.cell? ⟨(w.heap.size + 1), 4, none⟩ = some (.slice none 0 0) := NQ.out.cell 4
    have z0 : w1.cell? ⟨w.heap.size, 0, none⟩ = some (.int .i64 0) := ZQ.out.cell 0
    have zf0 := ZQ.out.frozen 0
    have z1 : w1.cell? ⟨w.heap.size, 1, none⟩ = some (.int .i64 0) := ZQ.out.cell 1
    have zf1 := ZQ.out.frozen 1
    have z2 : w1.cell? ⟨w.heap.size, 2, none⟩ = some (.int .i64 0) := ZQ.out.cell 2
    have zf2 := ZQ.out.frozen 2
    have z3 : w1.cell? ⟨w.heap.size, 3, none⟩ = some (.int .i64 0) := ZQ.out.cell 3
    have zf3 := ZQ.out.frozen 3
    have z4 : w1.cell? ⟨w.heap.size, 4, none⟩ = some (.slice none 0 0) := ZQ.out.cell 4
    have zf4 := ZQ.out.frozen 4
    have HE := Lib.hid (((((ZQ.out.set 0 (.int .i64 0)).set 1 (.int .i64 0)).set 2 (.int .i64 0)).set 3 (.int .i64 0)).set 4 (.slice none 0 0))
    go_wp2_with fail
    have hl := HE.out.load Tryd.underlying28 rfl (by kernel_rfl)
    refine bodyPost_ret (v := .tuple #[.agg #[.int .i64 0, .int .i64 0, .int .i64 0, .int .i64 0, .slice none 0 0], .bool false]) ?_ rfl ⟨.slice none 0 0, by rw [HN.out.1, HN.out.2.1, HN.out.2.2.1, HN.out.2.2.2.1, HN.out.2.2.2.2.2], by rw [HN.out.2.2.2.2.1]; exact World.ownsRow_nil .., HE.out.1⟩
    rw [results_cell_tmp rfl]
    simp [asAddr, Result.andThen, hl]
  obtain ⟨m, hm⟩ : ∃ m, x0.size = m + 1 := ⟨x0.size - 1, by omega⟩
  have q3 : decide ((x0.size : Int) < 2) = false := decide_eq_false (by omega)
  have q4 : ¬ (x0.size : Int) < 2 := by omega
  have HS2 := Lib.hid (fun w => l1Split x3 47 w z3)
  go_wp2_with fail
  refine (HS2.out _).mono ?_
  rintro e w2 ⟨v, ys, rfl, hown, hb2, hpc⟩
  have HPY := Lib.hid hpc
  have ZQ := Lib.hid (ZQ.out.old hb2)
  have NQ := Lib.hid (NQ.out.old hb2)
  have K0 := Lib.hid ((hb2.cell (p := ⟨gw, 0, none⟩) hgw).trans k0)
  have K1 := Lib.hid ((hb2.cell (p := ⟨gw, 1, none⟩) hgw).trans k1)
  have K5 := Lib.hid ((hb2.cell (p := ⟨gw, 5, none⟩) hgw).trans k5)
  have hgw2 : gw < w2.heap.size := Nat.lt_of_lt_of_le hgw hb2.size
  obtain ⟨A2, c2, rfl⟩ := own_strs hown
  clear hb2 HS2 hpc k0 k1 k3 k5 hgw q3 q4 z3 q1 h60
  by_cases hy2 : ys.length = 2
  rotate_left
  · have q2 : ((ys.length : Int) != 2) = true := by simp; omega
    have HN6 := Lib.hid (Bool.eq_false_iff.2 (fun hp => absurd (sp4 hp HPC.out HPY.out) hy2))
    generalize ys.length = yl at *
    have HN := Lib.hid (HNo.out (HN6.out))
    have n0 : w2.cell? ⟨(w.heap.size + 1), 0, none⟩ = some (.int .i64 0) := NQ.out.cell 0
    have n1 : w2.cell? ⟨(w.heap.size + 1), 1, none⟩ = some (.int .i64 0) := NQ.out.cell 1
    have n2 : w2.cell? ⟨(w.heap.size + 1), 2, none⟩ = some (.int .i64 0) := NQ.out.cell 2
    have n3 : w2.cell? ⟨(w.heap.size + 1), 3, none⟩ = some (.int .i64 0) := NQ.out.cell 3
    have n4 : w2.cell? ⟨(w.heap.size + 1), 4, none⟩ = some (.slice none 0 0) := NQ.out.cell 4
    have z0 : w2.cell? ⟨w.heap.size, 0, none⟩ = some (.int .i64 0) := ZQ.out.cell 0
    have zf0 := ZQ.out.frozen 0
    have z1 : w2.cell? ⟨w.heap.size, 1, none⟩ = some (.int .i64 0) := ZQ.out.cell 1
    have zf1 := ZQ.out.frozen 1
    have z2 : w2.cell? ⟨w.heap.size, 2, none⟩ = some (.int .i64 0) := ZQ.out.cell 2
    have zf2 := ZQ.out.frozen 2
    have z3 : w2.cell? ⟨w.heap.size, 3, none⟩ = some (.int .i64 0) := ZQ.out.cell 3
    have zf3 := ZQ.out.frozen 3
    have z4 : w2.cell? ⟨w.heap.size, 4, none⟩ = some (.slice none 0 0) := ZQ.out.cell 4
    have zf4 := ZQ.out.frozen 4
    have HE := Lib.hid (((((ZQ.out.set 0 (.int .i64 0)).set 1 (.int .i64 0)).set 2 (.int .i64 0)).set 3 (.int .i64 0)).set 4 (.slice none 0 0))
    go_wp2_with fail
    have hl := HE.out.load Tryd.underlying28 rfl (by kernel_rfl)
    refine bodyPost_ret (v := .tuple #[.agg #[.int .i64 0, .int .i64 0, .int .i64 0, .int .i64 0, .slice none 0 0], .bool false]) ?_ rfl ⟨.slice none 0 0, by rw [HN.out.1, HN.out.2.1, HN.out.2.2.1, HN.out.2.2.2.1, HN.out.2.2.2.2.2], by rw [HN.out.2.2.2.2.1]; exact World.ownsRow_nil .., HE.out.1⟩
    rw [results_cell_tmp rfl]
    simp [asAddr, Result.andThen, hl]
  obtain ⟨y0, y1, rfl⟩ := two hy2
  obtain ⟨gy, rfl, -, hgy, hcy⟩ := strs_at hown (show 0 < [y0, y1].length by simp)
  have l0 := hcy 0 y0 rfl
  have l1 := hcy 1 y1 rfl
  have k0 := K0.out
  clear hown hcy hy2
  simp only [List.length_cons, List.length_nil, Nat.zero_add, Nat.reduceAdd]
  have FN := Lib.hid (fun (hp : ppB t = true) => And.intro (((sp3 (m := m) hp HPC.out).2.1 hm)) (And.intro (sp3 (m := m) hp HPC.out).2.2 (And.intro (sp5 hp HPC.out HPY.out) (pp_yes hp))))
  have R0 := Lib.hid (fun w d => Calls.quiet_of (l1Read (x0.extract 0 m) (World.drewN w d)))
  have R1 := Lib.hid (fun w => l1Read x1 w)
  have R2 := Lib.hid (fun w => l1Read y0 w)
  have R3 := Lib.hid (fun w => l1Read y1 w)
  have e1 : (x0.size : Int) - 1 = (m : Int) := by omega
  have hmL : (m : Int) ≤ (x0.size : Int) := by omega
  generalize rdB (x0.extract 0 m) = b1 at *
  generalize rdN (x0.extract 0 m) = n1 at *
  generalize rdB x1 = b2 at *
  generalize rdN x1 = n2 at *
  generalize rdB y0 = b3 at *
  generalize rdN y0 = n3 at *
  generalize rdB y1 = b4 at *
  generalize rdN y1 = n4 at *
  clear hm h2
  go_upto_region 8 with fail
  go_quiet (first
    | (go_at_call 44; with_reducible exact R0.out _ _))
  have ZQ := Lib.hid (ZQ.out.drewN ‹Nat›)
  have NQ := Lib.hid (NQ.out.drewN ‹Nat›)
  generalize hw3 : w2.drewN ‹Nat› = w3 at *
  have k1 : w3.cell? ⟨gw, 1, none⟩ = some (.string x1) := by rw [← hw3]; exact K1.out
  have k5 : w3.cell? ⟨gw, 5, none⟩ = some (.string x5) := by rw [← hw3]; exact K5.out
  have k0 : w3.cell? ⟨gw, 0, none⟩ = some (.string x0) := by rw [← hw3]; exact K0.out
  have l0 : w3.cell? ⟨gy, 0, none⟩ = some (.string y0) := by rw [← hw3]; exact l0
  have l1 : w3.cell? ⟨gy, 1, none⟩ = some (.string y1) := by rw [← hw3]; exact l1
  have hgw3 : gw < w3.heap.size := by rw [← hw3]; exact hgw2
  clear hw3 K0 K1 K5
  go_wp2_with fail
  refine (R1.out _).mono ?_
  rintro e wx ⟨rfl, j2, rfl⟩
  have ZQ := Lib.hid (ZQ.out.drewN j2)
  have NQ := Lib.hid (NQ.out.drewN j2)
  generalize hw4 : w3.drewN j2 = w4 at *
  have k5 : w4.cell? ⟨gw, 5, none⟩ = some (.string x5) := by rw [← hw4]; exact k5
  have l0 : w4.cell? ⟨gy, 0, none⟩ = some (.string y0) := by rw [← hw4]; exact l0
  have l1 : w4.cell? ⟨gy, 1, none⟩ = some (.string y1) := by rw [← hw4]; exact l1
  have hgw4 : gw < w4.heap.size := by rw [← hw4]; exact hgw3
  clear hw4
  go_wp2_with fail
  refine (R2.out _).mono ?_
  rintro e wx ⟨rfl, j3, rfl⟩
  have ZQ := Lib.hid (ZQ.out.drewN j3)
  have NQ := Lib.hid (NQ.out.drewN j3)
  generalize hw5 : w4.drewN j3 = w5 at *
  have k5 : w5.cell? ⟨gw, 5, none⟩ = some (.string x5) := by rw [← hw5]; exact k5
  have l0 : w5.cell? ⟨gy, 0, none⟩ = some (.string y0) := by rw [← hw5]; exact l0
  have l1 : w5.cell? ⟨gy, 1, none⟩ = some (.string y1) := by rw [← hw5]; exact l1
  have hgw5 : gw < w5.heap.size := by rw [← hw5]; exact hgw4
  clear hw5
  go_wp2_with fail
  refine (R3.out _).mono ?_
  rintro e wx ⟨rfl, j4, rfl⟩
  have ZQ := Lib.hid (ZQ.out.drewN j4)
  have NQ := Lib.hid (NQ.out.drewN j4)
  generalize hw6 : w5.drewN j4 = w6 at *
  have k5 : w6.cell? ⟨gw, 5, none⟩ = some (.string x5) := by rw [← hw6]; exact k5
  have l0 : w6.cell? ⟨gy, 0, none⟩ = some (.string y0) := by rw [← hw6]; exact l0
  have l1 : w6.cell? ⟨gy, 1, none⟩ = some (.string y1) := by rw [← hw6]; exact l1
  have hgw6 : gw < w6.heap.size := by rw [← hw6]; exact hgw5
  clear hw6
  have HZW := Lib.hid (show w.heap.size < w6.heap.size from ZQ.out.2.2.1)
  have P0 := (newS 3 #[] w6).next 28 #[.int .i64 n1, .int .i64 n2, .int .i64 n3, .int .i64 n4, .slice (some ⟨w6.heap.size, 0, none⟩) 0 0]
  rw [World.size_alloc] at P0
  have O0 := (own_emptyZ w6 3 1).alloc (.cells #[.int .i64 n1, .int .i64 n2, .int .i64 n3, .int .i64 n4, .slice (some ⟨w6.heap.size, 0, none⟩) 0 0] 28)
  have P0 := Lib.hid P0
  have O0 := Lib.hid O0
  have QZ := Lib.hid (fun (W : World) (hb : Below w6.heap.size w6 W) => And.intro (ZQ.out.old hb) (And.intro (NQ.out.old hb) ((hb.cell (p := ⟨gw, 5, none⟩) hgw6).trans k5)))
  have HST := Lib.hid (fun k (h : k < x5.size) => st_next h)
  have HSA := Lib.hid (show st (x5.data.toList.take x5.size) = st x5.data.toList by rw [take_all x5 x5.size (Nat.le_refl _)])
  have HSL := Lib.hid (show (st x5.data.toList).length = x5.size by rw [st_size, len_list])
  clear ZQ NQ l0 l1 R0 R1 R2 R3 HPC HPY
  go_upto_region 13 with fail
  generalize (w6.alloc (.cells #[] 3)).alloc (.cells #[.int .i64 n1, .int .i64 n2, .int .i64 n3, .int .i64 n4, .slice (some ⟨w6.heap.size, 0, none⟩) 0 0] 28) = V0 at *
  go_wp2_with fail
  go_loopw [16] (fun i wr => ∃ (k : Nat) (u : Value), k ≤ x5.size ∧ i = .int .i64 k ∧ AtS 28 #[.int .i64 n1, .int .i64 n2, .int .i64 n3, .int .i64 n4, u] w6 wr (w6.heap.size + 1) ∧ wr.ownsRow w6.heap.size 3 1 u k (cellsI (st (x5.data.toList.take k)))) (fun i _ => x5.size - (intOf i).toNat)
  case atStart => exact ⟨0, _, Nat.zero_le _, rfl, P0.out, O0.out⟩
  case round =>
    obtain ⟨k, u, hk, rfl, hp, ho⟩ := hrel
    clear P0 O0
    obtain ⟨Au, cu, rfl⟩ := own_sliceZ ho
    obtain ⟨zq, nq, kq⟩ := QZ.out _ hp.1
    have PQ := Lib.hid hp
    have OQ := Lib.hid ho
    by_cases hlt : k < x5.size
    · have hlt2 : (k : Int) < (x5.size : Int) := by omega
      have hc0 : (0 : Int) ≤ (x5[k].toNat : Int) := Int.natCast_nonneg _
      have hc1 : (x5[k].toNat : Int) ≤ 255 := by have := x5[k].toNat_lt; omega
      have e0 : IntKind.i64.wrap (x5[k].toNat : Int) = (x5[k].toNat : Int) := IntWalk.i64_in _ (by omega)
      have e2 : IntKind.i64.wrap ((x5[k].toNat : Int) - 48) = (x5[k].toNat : Int) - 48 := IntWalk.i64_in _ (by omega)
      have HX := Lib.hid (HST.out k hlt)
      have HNE := Lib.hid (own_ne ho hp.2.2.2 (by decide))
      have hpl := hp.2.2.1
      have hg5 : gw ≠ w6.heap.size + 1 := by omega
      have CS := Lib.hid (show ∀ WZ : World, Below wr.heap.size wr WZ → World.cell? WZ ⟨w6.heap.size + 1, 4, none⟩ = some (.slice Au k cu) ∧ World.cell? WZ ⟨gw, 5, none⟩ = some (.string x5) from fun WZ hz => ⟨(PQ.out.old hz).cell 4, (hz.cell (p := ⟨gw, 5, none⟩) (World.block_lt_of_cell? _ _ kq)).trans kq⟩)
      clear zq nq hp ho
      generalize st (x5.data.toList.take k) = L at *
      go_upto_region 16 with fail
      clear kq
      have HS0 := Lib.hid (CS.out _ (Below.refl wr.heap.size wr).drew)
      refine wp_region_tail (S := fun w' => World.cell? w' ⟨w6.heap.size + 1, 4, none⟩ = some (.slice Au k cu) ∧ World.cell? w' ⟨gw, 5, none⟩ = some (.string x5)) 12 (by kernel_rfl) HS0.out (fun hHeld => ?_)
      try simp only [Act.put]
      refine wpAnyE_take (i := 0) (v := ?vqs0) rfl (by decide +kernel) (fun _ _ _ h => h) (Or.inl ⟨by rfl, ?hqs0⟩) (by assumption) ?rqs0
      case hqs0 =>
        intro wS hSw
        obtain ⟨h0, h1⟩ := hSw
        go_simp
        try with_reducible rfl
      try simp only [Act.put]
      refine wpAnyE_take (i := 1) (v := ?vqs1) rfl (by decide +kernel) (fun _ _ _ h => h) (Or.inl ⟨by rfl, ?hqs1⟩) (by assumption) ?rqs1
      case hqs1 =>
        intro wS hSw
        obtain ⟨h0, h1⟩ := hSw
        go_simp
        try with_reducible rfl
      try simp only [Act.put]
      refine wpAnyE_take (i := 2) (v := ?vqs2) rfl (by decide +kernel) (fun _ _ _ h => h) (Or.inl ⟨by rfl, ?hqs2⟩) (by assumption) ?rqs2
      case hqs2 =>
        intro wS hSw
        obtain ⟨h0, h1⟩ := hSw
        go_simp
        try with_reducible rfl
      try simp only [Act.put]
      refine wpAnyE_take (i := 3) (v := ?vqs3) rfl (by decide +kernel) (fun _ _ _ h => h) (Or.inl ⟨by rfl, ?hqs3⟩) (by assumption) ?rqs3
      case hqs3 =>
        intro wS hSw
        obtain ⟨h0, h1⟩ := hSw
        go_simp
        try with_reducible rfl
      try simp only [Act.put]
      refine wpAnyE_take (i := 4) (v := ?vqs4) rfl (by decide +kernel) (fun _ _ _ h => h) (Or.inl ⟨by rfl, ?hqs4⟩) (by assumption) ?rqs4
      case hqs4 =>
        intro wS hSw
        obtain ⟨h0, h1⟩ := hSw
        go_simp
        try with_reducible rfl
      try simp only [Act.put]
      refine wpAnyE_take (i := 5) (v := ?vqs5) rfl (by decide +kernel) (fun _ _ _ h => h) (Or.inl ⟨by rfl, ?hqs5⟩) (by assumption) ?rqs5
      case hqs5 =>
        intro wS hSw
        obtain ⟨h0, h1⟩ := hSw
        go_simp
        try with_reducible rfl
      try simp only [Act.put]
      refine wpAnyE_take (i := 6) (v := ?vqs6) rfl (by decide +kernel) (fun _ _ _ h => h) (Or.inl ⟨by rfl, ?hqs6⟩) (by assumption) ?rqs6
      case hqs6 =>
        intro wS hSw
        obtain ⟨h0, h1⟩ := hSw
        go_simp
        try with_reducible rfl
      try simp only [Act.put]
      refine wpAnyE_take (i := 7) (v := ?vqs7) rfl (by decide +kernel) (fun _ _ _ h => h) (Or.inl ⟨by rfl, ?hqs7⟩) (by assumption) ?rqs7
      case hqs7 =>
        intro wS hSw
        obtain ⟨h0, h1⟩ := hSw
        go_simp
        try with_reducible rfl
      try simp only [Act.put]
      refine wpAnyE_take (i := 8) (v := ?vqs8) rfl (by decide +kernel) (fun _ _ _ h => h) (Or.inl ⟨by rfl, ?hqs8⟩) (by assumption) ?rqs8
      case hqs8 =>
        intro wS hSw
        obtain ⟨h0, h1⟩ := hSw
        go_simp
        try with_reducible rfl
      try simp only [Act.put]
      refine wpAnyE_ready (rs := [9]) (by kernel_rfl) (by simp) ?_
      refine AllReadyE.cons (i := 9) rfl (by decide) (fun K hK => ?_) AllReadyE.nil
      go_simp
      refine hK.out _ _ (CS.out _ ((Below.refl wr.heap.size wr).drew.alloc (Nat.le_refl _) _)) (fun hHeld => ?_)
      clear hK K
      try simp only [Act.put]
      refine wpAnyE_ready (rs := [10]) (by kernel_rfl) (by simp) ?_
      refine AllReadyE.cons (i := 10) rfl (by decide) (fun K hK => ?_) AllReadyE.nil
      refine step_append_sz rfl (.tmp 94) (.tmp 102) 26 rfl w6.heap.size 3 iI (.int .i64 0) 1 8 Tryd.underlying26 hiI hzI0 hzI1 hzI2 rfl (by decide) (.slice Au k cu) k (cellsI L) rfl (own_.own_below OQ.out ((Below.refl wr.heap.size wr).drew.alloc (Nat.le_refl _) (.cells #[.int .i64 ((x5[k].toNat : Int) - 48)] 3))) _ 1 1 [.int .i64 ((x5[k].toNat : Int) - 48)] rfl rfl (cell_one_new wr.drew _ _) (own_.one_cell _ rfl) (by unfold maxLen; omega) (by omega) (by have := PQ.out.1.size; show w6.heap.size ≤ (wr.alloc _).heap.size; rw [World.size_alloc]; omega) ?_
      intro v4 w4' o4 g4 r4
      obtain ⟨A4, c4, rfl⟩ := own_sliceZ o4
      have A1 : Below wr.heap.size wr (wr.drew.alloc (.cells #[.int .i64 ((x5[k].toNat : Int) - 48)] 3)) := (Below.refl wr.heap.size wr).drew.alloc (Nat.le_refl _) _
      have NEW := Lib.hid (show World.cell? w4' ⟨w6.heap.size + 1, 4, none⟩ = some (.slice Au k cu) ∧ World.cell? w4' ⟨gw, 5, none⟩ = some (.string x5) from ⟨g4.cell (CS.out _ A1).1 (fun e => HNE.out e.symm), g4.cell (CS.out _ A1).2 (fun e => by have := own_.row_ge OQ.out gw e.symm; omega)⟩)
      have hA5 : (wr.drew.alloc (.cells #[.int .i64 ((x5[k].toNat : Int) - 48)] 3)).heap[w6.heap.size + 1]? = some (.cells #[.int .i64 n1, .int .i64 n2, .int .i64 n3, .int .i64 n4, .slice Au k cu] 28 (0, 0)) := (PQ.out.old A1).2.2.2
      have P4 := Lib.hid (show AtS 28 #[.int .i64 n1, .int .i64 n2, .int .i64 n3, .int .i64 n4, .slice Au k cu] w6 w4' (w6.heap.size + 1) from ⟨(PQ.out.1.trans (A1.mono PQ.out.1.size)).grown g4 (Nat.le_trans PQ.out.1.size A1.size) (own_.row_ge OQ.out), PQ.out.2.1, Nat.lt_of_lt_of_le PQ.out.2.2.1 (Nat.le_trans A1.size g4.size), (g4.block _ (Nat.lt_of_lt_of_le PQ.out.2.2.1 A1.size) (fun e => HNE.out e.symm)).trans hA5⟩)
      have s4 := NEW.out.1
      have f4 := P4.out.frozen 4
      have P5 := Lib.hid (show AtS 28 #[.int .i64 n1, .int .i64 n2, .int .i64 n3, .int .i64 n4, .slice A4 (k + 1) c4] w6 (w4'.setCell ⟨w6.heap.size + 1, 4, none⟩ (.slice A4 (k + 1) c4)) (w6.heap.size + 1) from P4.out.set 4 (.slice A4 (k + 1) c4))
      have O5 := Lib.hid (own_kept_at o4 (grown_set (grown_refl w4' (some (w6.heap.size + 1))) 4 (.slice A4 (k + 1) c4)) (fun g hg e => own_ne o4 P4.out.2.2.2 (by decide) (hg.trans e.symm)))
      clear A1 o4 g4 r4 hA5 P4
      refine hK.out _ _ (NEW.out) (fun hHeld => ?_)
      clear hK K
      try simp only [Act.put]
      refine wpAnyE_take (i := 11) (v := ?vqs11) rfl (by decide +kernel) (fun _ _ _ h => h) (Or.inl ⟨by rfl, ?hqs11⟩) (by assumption) ?rqs11
      case hqs11 =>
        intro wS hSw
        obtain ⟨h0, h1⟩ := hSw
        go_simp
        try with_reducible rfl
      try simp only [Act.put]
      refine wpAnyE_ready (rs := [12]) (by kernel_rfl) (by simp) ?_
      refine AllReadyE.last (i := 12) rfl rfl (fun K hK => ?_)
      go_simp
      refine hK.out _ _ ?_
      clear hK K
      try simp only [Act.put]
      refine wpAnyE_done (by kernel_rfl) ?_ _
      try simp only [List.getElem_toArray, List.getElem_cons_succ, List.getElem_cons_zero, List.setIfInBounds_toArray, List.set_cons_succ, List.set_cons_zero]
      clear s4 f4 NEW CS HS0 hHeld
      have O6 := Lib.hid (show (w4'.setCell ⟨w6.heap.size + 1, 4, none⟩ (.slice A4 (k + 1) c4)).ownsRow w6.heap.size 3 1 (.slice A4 (k + 1) c4) (k + 1) (cellsI (st (x5.data.toList.take (k + 1)))) by rw [HX.out]; unfold cellsI; rw [List.map_append]; exact O5.out)
      clear O5
      generalize w4'.setCell ⟨w6.heap.size + 1, 4, none⟩ (.slice A4 (k + 1) c4) = w5' at *
      go_wp2_with fail
      go_roundw
      case rel => exact ⟨k + 1, _, by omega, by go_num, P5.out, O6.out⟩
      case measure => simp [intOf]; omega
    · obtain rfl : k = x5.size := by omega
      rw [HSA.out] at ho
      have OQ := Lib.hid ho
      have ZQ := Lib.hid zq
      have NQ := Lib.hid nq
      have RQ := Lib.hid (intc.rd_of_own ho HSL.out)
      have hzV := HZW.out
      clear zq nq hp ho HST HSA QZ
      cases b1
      · have HN6 := Lib.hid (Bool.eq_false_iff.2 (fun hp => by have h9 := (FN.out hp).1.1; cases h9))
        have HN := Lib.hid (HNo.out (HN6.out))
        have n0 : wr.cell? ⟨(w.heap.size + 1), 0, none⟩ = some (.int .i64 0) := NQ.out.cell 0
        have n1 : wr.cell? ⟨(w.heap.size + 1), 1, none⟩ = some (.int .i64 0) := NQ.out.cell 1
        have n2 : wr.cell? ⟨(w.heap.size + 1), 2, none⟩ = some (.int .i64 0) := NQ.out.cell 2
        have n3 : wr.cell? ⟨(w.heap.size + 1), 3, none⟩ = some (.int .i64 0) := NQ.out.cell 3
        have n4 : wr.cell? ⟨(w.heap.size + 1), 4, none⟩ = some (.slice none 0 0) := NQ.out.cell 4
        have z0 : wr.cell? ⟨w.heap.size, 0, none⟩ = some (.int .i64 0) := ZQ.out.cell 0
        have zf0 := ZQ.out.frozen 0
        have z1 : wr.cell? ⟨w.heap.size, 1, none⟩ = some (.int .i64 0) := ZQ.out.cell 1
        have zf1 := ZQ.out.frozen 1
        have z2 : wr.cell? ⟨w.heap.size, 2, none⟩ = some (.int .i64 0) := ZQ.out.cell 2
        have zf2 := ZQ.out.frozen 2
        have z3 : wr.cell? ⟨w.heap.size, 3, none⟩ = some (.int .i64 0) := ZQ.out.cell 3
        have zf3 := ZQ.out.frozen 3
        have z4 : wr.cell? ⟨w.heap.size, 4, none⟩ = some (.slice none 0 0) := ZQ.out.cell 4
        have zf4 := ZQ.out.frozen 4
        have HE := Lib.hid (((((ZQ.out.set 0 (.int .i64 0)).set 1 (.int .i64 0)).set 2 (.int .i64 0)).set 3 (.int .i64 0)).set 4 (.slice none 0 0))
        go_wp2_with fail
        have hl := HE.out.load Tryd.underlying28 rfl (by kernel_rfl)
        refine bodyPost_ret (v := .tuple #[.agg #[.int .i64 0, .int .i64 0, .int .i64 0, .int .i64 0, .slice none 0 0], .bool false]) ?_ rfl ⟨.slice none 0 0, by rw [HN.out.1, HN.out.2.1, HN.out.2.2.1, HN.out.2.2.2.1, HN.out.2.2.2.2.2], by rw [HN.out.2.2.2.2.1]; exact World.ownsRow_nil .., HE.out.1⟩
        rw [results_cell_tmp rfl]
        simp [asAddr, Result.andThen, hl]
      cases b2
      · have HN6 := Lib.hid (Bool.eq_false_iff.2 (fun hp => by have h9 := (FN.out hp).2.1.1.1; cases h9))
        have HN := Lib.hid (HNo.out (HN6.out))
        have n0 : wr.cell? ⟨(w.heap.size + 1), 0, none⟩ = some (.int .i64 0) := NQ.out.cell 0
        have n1 : wr.cell? ⟨(w.heap.size + 1), 1, none⟩ = some (.int .i64 0) := NQ.out.cell 1
        have n2 : wr.cell? ⟨(w.heap.size + 1), 2, none⟩ = some (.int .i64 0) := NQ.out.cell 2
        have n3 : wr.cell? ⟨(w.heap.size + 1), 3, none⟩ = some (.int .i64 0) := NQ.out.cell 3
        have n4 : wr.cell? ⟨(w.heap.size + 1), 4, none⟩ = some (.slice none 0 0) := NQ.out.cell 4
        have z0 : wr.cell? ⟨w.heap.size, 0, none⟩ = some (.int .i64 0) := ZQ.out.cell 0
        have zf0 := ZQ.out.frozen 0
        have z1 : wr.cell? ⟨w.heap.size, 1, none⟩ = some (.int .i64 0) := ZQ.out.cell 1
        have zf1 := ZQ.out.frozen 1
        have z2 : wr.cell? ⟨w.heap.size, 2, none⟩ = some (.int .i64 0) := ZQ.out.cell 2
        have zf2 := ZQ.out.frozen 2
        have z3 : wr.cell? ⟨w.heap.size, 3, none⟩ = some (.int .i64 0) := ZQ.out.cell 3
        have zf3 := ZQ.out.frozen 3
        have z4 : wr.cell? ⟨w.heap.size, 4, none⟩ = some (.slice none 0 0) := ZQ.out.cell 4
        have zf4 := ZQ.out.frozen 4
        have HE := Lib.hid (((((ZQ.out.set 0 (.int .i64 0)).set 1 (.int .i64 0)).set 2 (.int .i64 0)).set 3 (.int .i64 0)).set 4 (.slice none 0 0))
        go_wp2_with fail
        have hl := HE.out.load Tryd.underlying28 rfl (by kernel_rfl)
        refine bodyPost_ret (v := .tuple #[.agg #[.int .i64 0, .int .i64 0, .int .i64 0, .int .i64 0, .slice none 0 0], .bool false]) ?_ rfl ⟨.slice none 0 0, by rw [HN.out.1, HN.out.2.1, HN.out.2.2.1, HN.out.2.2.2.1, HN.out.2.2.2.2.2], by rw [HN.out.2.2.2.2.1]; exact World.ownsRow_nil .., HE.out.1⟩
        rw [results_cell_tmp rfl]
        simp [asAddr, Result.andThen, hl]
      cases b3
      · have HN6 := Lib.hid (Bool.eq_false_iff.2 (fun hp => by have h9 := (FN.out hp).2.2.1.1.1; cases h9))
        have HN := Lib.hid (HNo.out (HN6.out))
        have n0 : wr.cell? ⟨(w.heap.size + 1), 0, none⟩ = some (.int .i64 0) := NQ.out.cell 0
        have n1 : wr.cell? ⟨(w.heap.size + 1), 1, none⟩ = some (.int .i64 0) := NQ.out.cell 1
        have n2 : wr.cell? ⟨(w.heap.size + 1), 2, none⟩ = some (.int .i64 0) := NQ.out.cell 2
        have n3 : wr.cell? ⟨(w.heap.size + 1), 3, none⟩ = some (.int .i64 0) := NQ.out.cell 3
        have n4 : wr.cell? ⟨(w.heap.size + 1), 4, none⟩ = some (.slice none 0 0) := NQ.out.cell 4
        have z0 : wr.cell? ⟨w.heap.size, 0, none⟩ = some (.int .i64 0) := ZQ.out.cell 0
        have zf0 := ZQ.out.frozen 0
        have z1 : wr.cell? ⟨w.heap.size, 1, none⟩ = some (.int .i64 0) := ZQ.out.cell 1
        have zf1 := ZQ.out.frozen 1
        have z2 : wr.cell? ⟨w.heap.size, 2, none⟩ = some (.int .i64 0) := ZQ.out.cell 2
        have zf2 := ZQ.out.frozen 2
        have z3 : wr.cell? ⟨w.heap.size, 3, none⟩ = some (.int .i64 0) := ZQ.out.cell 3
        have zf3 := ZQ.out.frozen 3
        have z4 : wr.cell? ⟨w.heap.size, 4, none⟩ = some (.slice none 0 0) := ZQ.out.cell 4
        have zf4 := ZQ.out.frozen 4
        have HE := Lib.hid (((((ZQ.out.set 0 (.int .i64 0)).set 1 (.int .i64 0)).set 2 (.int .i64 0)).set 3 (.int .i64 0)).set 4 (.slice none 0 0))
        go_wp2_with fail
        have hl := HE.out.load Tryd.underlying28 rfl (by kernel_rfl)
        refine bodyPost_ret (v := .tuple #[.agg #[.int .i64 0, .int .i64 0, .int .i64 0, .int .i64 0, .slice none 0 0], .bool false]) ?_ rfl ⟨.slice none 0 0, by rw [HN.out.1, HN.out.2.1, HN.out.2.2.1, HN.out.2.2.2.1, HN.out.2.2.2.2.2], by rw [HN.out.2.2.2.2.1]; exact World.ownsRow_nil .., HE.out.1⟩
        rw [results_cell_tmp rfl]
        simp [asAddr, Result.andThen, hl]
      cases b4
      · have HN6 := Lib.hid (Bool.eq_false_iff.2 (fun hp => by have h9 := (FN.out hp).2.2.1.2.1; cases h9))
        have HN := Lib.hid (HNo.out (HN6.out))
        have n0 : wr.cell? ⟨(w.heap.size + 1), 0, none⟩ = some (.int .i64 0) := NQ.out.cell 0
        have n1 : wr.cell? ⟨(w.heap.size + 1), 1, none⟩ = some (.int .i64 0) := NQ.out.cell 1
        have n2 : wr.cell? ⟨(w.heap.size + 1), 2, none⟩ = some (.int .i64 0) := NQ.out.cell 2
        have n3 : wr.cell? ⟨(w.heap.size + 1), 3, none⟩ = some (.int .i64 0) := NQ.out.cell 3
        have n4 : wr.cell? ⟨(w.heap.size + 1), 4, none⟩ = some (.slice none 0 0) := NQ.out.cell 4
        have z0 : wr.cell? ⟨w.heap.size, 0, none⟩ = some (.int .i64 0) := ZQ.out.cell 0
        have zf0 := ZQ.out.frozen 0
        have z1 : wr.cell? ⟨w.heap.size, 1, none⟩ = some (.int .i64 0) := ZQ.out.cell 1
        have zf1 := ZQ.out.frozen 1
        have z2 : wr.cell? ⟨w.heap.size, 2, none⟩ = some (.int .i64 0) := ZQ.out.cell 2
        have zf2 := ZQ.out.frozen 2
        have z3 : wr.cell? ⟨w.heap.size, 3, none⟩ = some (.int .i64 0) := ZQ.out.cell 3
        have zf3 := ZQ.out.frozen 3
        have z4 : wr.cell? ⟨w.heap.size, 4, none⟩ = some (.slice none 0 0) := ZQ.out.cell 4
        have zf4 := ZQ.out.frozen 4
        have HE := Lib.hid (((((ZQ.out.set 0 (.int .i64 0)).set 1 (.int .i64 0)).set 2 (.int .i64 0)).set 3 (.int .i64 0)).set 4 (.slice none 0 0))
        go_wp2_with fail
        have hl := HE.out.load Tryd.underlying28 rfl (by kernel_rfl)
        refine bodyPost_ret (v := .tuple #[.agg #[.int .i64 0, .int .i64 0, .int .i64 0, .int .i64 0, .slice none 0 0], .bool false]) ?_ rfl ⟨.slice none 0 0, by rw [HN.out.1, HN.out.2.1, HN.out.2.2.1, HN.out.2.2.2.1, HN.out.2.2.2.2.2], by rw [HN.out.2.2.2.2.1]; exact World.ownsRow_nil .., HE.out.1⟩
        rw [results_cell_tmp rfl]
        simp [asAddr, Result.andThen, hl]
      have G8 := Lib.hid (fun (W : World) (hb : Below wr.heap.size wr W) => pltw.plot13 n1 n2 n3 n4 (st x5.data.toList) Au x5.size cu W (by omega) (RQ.out.next hb))
      have T8 := fun h (W : World) (hb : Below wr.heap.size wr W) => text13 n1 n2 n3 n4 (st x5.data.toList) Au x5.size cu W h (RQ.out.next hb)
      have HYY := Lib.hid (fun h1 h2 => HYe.out n1 n2 n3 n4 (st x5.data.toList) x5.size HSL.out h1 h2)
      have FNN := Lib.hid (fun (hp : ppB t = true) => show plB n1 n2 n3 n4 (st x5.data.toList) x5.size = true ∧ ptxT n1 n2 n3 n4 (st x5.data.toList) x5.size = t from by
        obtain ⟨⟨-, g1⟩, ⟨⟨-, g2⟩, g5⟩, ⟨⟨-, g3⟩, -, g4⟩, g6, g7⟩ := FN.out hp
        rw [← g1, ← g2, ← g3, ← g4, ← g5, HSL.out] at g6 g7
        exact ⟨g6, g7⟩)
      clear FN HYe
      have p0 : wr.cell? ⟨(w6.heap.size + 1), 0, none⟩ = some (.int .i64 n1) := PQ.out.cell 0
      have p1 : wr.cell? ⟨(w6.heap.size + 1), 1, none⟩ = some (.int .i64 n2) := PQ.out.cell 1
      have p2 : wr.cell? ⟨(w6.heap.size + 1), 2, none⟩ = some (.int .i64 n3) := PQ.out.cell 2
      have p3 : wr.cell? ⟨(w6.heap.size + 1), 3, none⟩ = some (.int .i64 n4) := PQ.out.cell 3
      have p4 : wr.cell? ⟨(w6.heap.size + 1), 4, none⟩ = some (.slice Au x5.size cu) := PQ.out.cell 4
      cases hv : plB n1 n2 n3 n4 (st x5.data.toList) x5.size
      · have HN6 := Lib.hid (Bool.eq_false_iff.2 (fun hp => by have h9 := (FNN.out hp).1; rw [hv] at h9; cases h9))
        have G := Lib.hid (hv ▸ G8.out)
        clear hv HYY FNN T8 G8
        go_wp2_with fail
        refine (G.out _ (Below.refl _ _)).mono ?_
        rintro e wf ⟨rfl, hbf⟩
        have ZQ := Lib.hid (ZQ.out.old hbf)
        have NQ := Lib.hid (NQ.out.old hbf)
        clear hbf p0 p1 p2 p3 p4
        have HN := Lib.hid (HNo.out (HN6.out))
        have n0 : wf.cell? ⟨(w.heap.size + 1), 0, none⟩ = some (.int .i64 0) := NQ.out.cell 0
        have n1 : wf.cell? ⟨(w.heap.size + 1), 1, none⟩ = some (.int .i64 0) := NQ.out.cell 1
        have n2 : wf.cell? ⟨(w.heap.size + 1), 2, none⟩ = some (.int .i64 0) := NQ.out.cell 2
        have n3 : wf.cell? ⟨(w.heap.size + 1), 3, none⟩ = some (.int .i64 0) := NQ.out.cell 3
        have n4 : wf.cell? ⟨(w.heap.size + 1), 4, none⟩ = some (.slice none 0 0) := NQ.out.cell 4
        have z0 : wf.cell? ⟨w.heap.size, 0, none⟩ = some (.int .i64 0) := ZQ.out.cell 0
        have zf0 := ZQ.out.frozen 0
        have z1 : wf.cell? ⟨w.heap.size, 1, none⟩ = some (.int .i64 0) := ZQ.out.cell 1
        have zf1 := ZQ.out.frozen 1
        have z2 : wf.cell? ⟨w.heap.size, 2, none⟩ = some (.int .i64 0) := ZQ.out.cell 2
        have zf2 := ZQ.out.frozen 2
        have z3 : wf.cell? ⟨w.heap.size, 3, none⟩ = some (.int .i64 0) := ZQ.out.cell 3
        have zf3 := ZQ.out.frozen 3
        have z4 : wf.cell? ⟨w.heap.size, 4, none⟩ = some (.slice none 0 0) := ZQ.out.cell 4
        have zf4 := ZQ.out.frozen 4
        have HE := Lib.hid (((((ZQ.out.set 0 (.int .i64 0)).set 1 (.int .i64 0)).set 2 (.int .i64 0)).set 3 (.int .i64 0)).set 4 (.slice none 0 0))
        go_wp2_with fail
        have hl := HE.out.load Tryd.underlying28 rfl (by kernel_rfl)
        refine bodyPost_ret (v := .tuple #[.agg #[.int .i64 0, .int .i64 0, .int .i64 0, .int .i64 0, .slice none 0 0], .bool false]) ?_ rfl ⟨.slice none 0 0, by rw [HN.out.1, HN.out.2.1, HN.out.2.2.1, HN.out.2.2.2.1, HN.out.2.2.2.2.2], by rw [HN.out.2.2.2.2.1]; exact World.ownsRow_nil .., HE.out.1⟩
        rw [results_cell_tmp rfl]
        simp [asAddr, Result.andThen, hl]
      have G := Lib.hid (hv ▸ G8.out)
      have T := Lib.hid (T8 hv)
      have HYY2 := Lib.hid (fun h => HYY.out hv h)
      have HNN := Lib.hid (fun (h : ((ptxT n1 n2 n3 n4 (st x5.data.toList) x5.size).toList == t.toList) = false) => show ppB t = false from Bool.eq_false_iff.2 (fun hp => by rw [(FNN.out hp).2] at h; simp at h))
      clear hv HYY FNN T8 G8
      generalize ptxT n1 n2 n3 n4 (st x5.data.toList) x5.size = tt at *
      go_wp2_with fail
      refine (G.out _ (Below.refl _ _)).mono ?_
      rintro e wf ⟨rfl, hbf⟩
      have ZQ := Lib.hid (ZQ.out.old hbf)
      have NQ := Lib.hid (NQ.out.old hbf)
      have PQ := Lib.hid (PQ.out.old hbf)
      have OQ := Lib.hid (own_.own_below OQ.out hbf)
      have HBF := Lib.hid hbf
      clear hbf p0 p1 p2 p3 p4 G
      have p0 : wf.cell? ⟨(w6.heap.size + 1), 0, none⟩ = some (.int .i64 n1) := PQ.out.cell 0
      have p1 : wf.cell? ⟨(w6.heap.size + 1), 1, none⟩ = some (.int .i64 n2) := PQ.out.cell 1
      have p2 : wf.cell? ⟨(w6.heap.size + 1), 2, none⟩ = some (.int .i64 n3) := PQ.out.cell 2
      have p3 : wf.cell? ⟨(w6.heap.size + 1), 3, none⟩ = some (.int .i64 n4) := PQ.out.cell 3
      have p4 : wf.cell? ⟨(w6.heap.size + 1), 4, none⟩ = some (.slice Au x5.size cu) := PQ.out.cell 4
      go_wp2_with fail
      refine (T.out _ HBF.out).mono ?_
      rintro e wg ⟨rfl, hbf⟩
      have ZQ := Lib.hid (ZQ.out.old hbf)
      have NQ := Lib.hid (NQ.out.old hbf)
      have PQ := Lib.hid (PQ.out.old hbf)
      have OQ := Lib.hid (own_.own_below OQ.out hbf)
      clear hbf p0 p1 p2 p3 p4 T HBF
      cases hc : (tt.toList == t.toList)
      · have HN6 := Lib.hid (HNN.out hc)
        have HN := Lib.hid (HNo.out (HN6.out))
        have n0 : wg.cell? ⟨(w.heap.size + 1), 0, none⟩ = some (.int .i64 0) := NQ.out.cell 0
        have n1 : wg.cell? ⟨(w.heap.size + 1), 1, none⟩ = some (.int .i64 0) := NQ.out.cell 1
        have n2 : wg.cell? ⟨(w.heap.size + 1), 2, none⟩ = some (.int .i64 0) := NQ.out.cell 2
        have n3 : wg.cell? ⟨(w.heap.size + 1), 3, none⟩ = some (.int .i64 0) := NQ.out.cell 3
        have n4 : wg.cell? ⟨(w.heap.size + 1), 4, none⟩ = some (.slice none 0 0) := NQ.out.cell 4
        have z0 : wg.cell? ⟨w.heap.size, 0, none⟩ = some (.int .i64 0) := ZQ.out.cell 0
        have zf0 := ZQ.out.frozen 0
        have z1 : wg.cell? ⟨w.heap.size, 1, none⟩ = some (.int .i64 0) := ZQ.out.cell 1
        have zf1 := ZQ.out.frozen 1
        have z2 : wg.cell? ⟨w.heap.size, 2, none⟩ = some (.int .i64 0) := ZQ.out.cell 2
        have zf2 := ZQ.out.frozen 2
        have z3 : wg.cell? ⟨w.heap.size, 3, none⟩ = some (.int .i64 0) := ZQ.out.cell 3
        have zf3 := ZQ.out.frozen 3
        have z4 : wg.cell? ⟨w.heap.size, 4, none⟩ = some (.slice none 0 0) := ZQ.out.cell 4
        have zf4 := ZQ.out.frozen 4
        have HE := Lib.hid (((((ZQ.out.set 0 (.int .i64 0)).set 1 (.int .i64 0)).set 2 (.int .i64 0)).set 3 (.int .i64 0)).set 4 (.slice none 0 0))
        go_wp2_with fail
        have hl := HE.out.load Tryd.underlying28 rfl (by kernel_rfl)
        refine bodyPost_ret (v := .tuple #[.agg #[.int .i64 0, .int .i64 0, .int .i64 0, .int .i64 0, .slice none 0 0], .bool false]) ?_ rfl ⟨.slice none 0 0, by rw [HN.out.1, HN.out.2.1, HN.out.2.2.1, HN.out.2.2.2.1, HN.out.2.2.2.2.2], by rw [HN.out.2.2.2.2.1]; exact World.ownsRow_nil .., HE.out.1⟩
        rw [results_cell_tmp rfl]
        simp [asAddr, Result.andThen, hl]
      · have HY := Lib.hid (HYY2.out hc)
        have p0 : wg.cell? ⟨(w6.heap.size + 1), 0, none⟩ = some (.int .i64 n1) := PQ.out.cell 0
        have p1 : wg.cell? ⟨(w6.heap.size + 1), 1, none⟩ = some (.int .i64 n2) := PQ.out.cell 1
        have p2 : wg.cell? ⟨(w6.heap.size + 1), 2, none⟩ = some (.int .i64 n3) := PQ.out.cell 2
        have p3 : wg.cell? ⟨(w6.heap.size + 1), 3, none⟩ = some (.int .i64 n4) := PQ.out.cell 3
        have p4 : wg.cell? ⟨(w6.heap.size + 1), 4, none⟩ = some (.slice Au x5.size cu) := PQ.out.cell 4
        have z0 : wg.cell? ⟨w.heap.size, 0, none⟩ = some (.int .i64 0) := ZQ.out.cell 0
        have zf0 := ZQ.out.frozen 0
        have z1 : wg.cell? ⟨w.heap.size, 1, none⟩ = some (.int .i64 0) := ZQ.out.cell 1
        have zf1 := ZQ.out.frozen 1
        have z2 : wg.cell? ⟨w.heap.size, 2, none⟩ = some (.int .i64 0) := ZQ.out.cell 2
        have zf2 := ZQ.out.frozen 2
        have z3 : wg.cell? ⟨w.heap.size, 3, none⟩ = some (.int .i64 0) := ZQ.out.cell 3
        have zf3 := ZQ.out.frozen 3
        have z4 : wg.cell? ⟨w.heap.size, 4, none⟩ = some (.slice none 0 0) := ZQ.out.cell 4
        have zf4 := ZQ.out.frozen 4
        have HO := Lib.hid (own_setbox (own_setbox (own_setbox (own_setbox (own_setbox OQ.out hzV 0 (.int .i64 n1)) hzV 1 (.int .i64 n2)) hzV 2 (.int .i64 n3)) hzV 3 (.int .i64 n4)) hzV 4 (.slice Au x5.size cu))
        have HE := Lib.hid (((((ZQ.out.set 0 (.int .i64 n1)).set 1 (.int .i64 n2)).set 2 (.int .i64 n3)).set 3 (.int .i64 n4)).set 4 (.slice Au x5.size cu))
        go_wp2_with fail
        have hl := HE.out.load Tryd.underlying28 rfl (by kernel_rfl)
        refine bodyPost_ret (v := .tuple #[.agg #[.int .i64 n1, .int .i64 n2, .int .i64 n3, .int .i64 n4, .slice Au x5.size cu], .bool true]) ?_ rfl ⟨.slice Au x5.size cu, by rw [HY.out.1, HY.out.2.1, HY.out.2.2.1, HY.out.2.2.2.1, HY.out.2.2.2.2.2], by rw [HY.out.2.2.2.2.1, HSL.out]; exact own_.own_base HO.out (Nat.le_of_lt HZW.out), HE.out.1⟩
        rw [results_cell_tmp rfl]
        simp [asAddr, Result.andThen, hl]
end Go.Proofs.YtdjcbfeilkepmaaDoor.ptxs
