/- Reading a track's line: impl's readTrack, ParseTrackLine. -/
import Derived.Test.YtedocpocfpopgaaDoorTrkR
import Derived.Test.YtedocpocfpopgaaDoorParse
import Derived.Test.YtedocpocfpopgaaDoorShelf
import Derived.Test.YtedocpocfpopgaaDoorSplitImpl
import Derived.Test.YtedocpocfpopgaaDoorAtS
import Derived.OwnWalk
namespace Go.Proofs.YtedocpocfpopgaaDoor.trka
open Go.RowKit Go.Proofs.YtedocpocfpopgaaDoor.num Go.Proofs.YtedocpocfpopgaaDoor.read Go.Proofs.YtedocpocfpopgaaDoor.ats Go.Proofs.YtedocpocfpopgaaDoor.split_ Go.Proofs.YtedocpocfpopgaaDoor.pos Go.Proofs.YtedocpocfpopgaaDoor.trk Go.Proofs.YtedocpocfpopgaaDoor.trkm Go.Proofs.YtedocpocfpopgaaDoor.trkp Go.Proofs.YtedocpocfpopgaaDoor.trkr

/-- internal/bytealg.MaxLen holds some int. -/
def Mx (w : World) : Prop := ∃ m, w.cell? ⟨3, 0, none⟩ = some (.int .i64 m)
theorem mx_on {w w' : World} (h : Mx w) (hb : Below w.heap.size w w') : Mx w' := by
  obtain ⟨m, hm⟩ := h
  exact ⟨m, (hb.cell (World.block_lt_of_cell? _ _ hm)).trans hm⟩
theorem cut_any (s sep : ByteArray) (w : World) (hs : s.size ≤ 1048576) (hm : Mx w) :
    Calls Tryd.prog 87 #[.string s, .string sep] w fun e w' => e = .returned (.tuple #[.string ⟨(Lib.cut s.data.toList sep.data.toList).1.toArray⟩, .string ⟨(Lib.cut s.data.toList sep.data.toList).2.1.toArray⟩, .bool (Lib.cut s.data.toList sep.data.toList).2.2]) ∧ ∃ n, w' = w.drewN n := by
  obtain ⟨m, hm⟩ := hm
  exact Tryd.strings_Cut s sep m w (by omega) hm
theorem cut_le (l sep : List UInt8) : (Lib.cut l sep).1.length ≤ l.length ∧ (Lib.cut l sep).2.1.length ≤ l.length := by
  unfold Lib.cut
  split
  · refine ⟨?_, ?_⟩
    · show (l.take _).length ≤ _
      rw [List.length_take]; omega
    · show (l.drop _).length ≤ _
      rw [List.length_drop]; omega
  · exact ⟨Nat.le_refl _, Nat.zero_le _⟩
theorem sz_of (l : List UInt8) : (⟨l.toArray⟩ : ByteArray).size = l.length := rfl
theorem six {xs : List ByteArray} (h : xs.length = 6) : ∃ a b c d e f, xs = [a, b, c, d, e, f] := by
  match xs, h with
  | [a, b, c, d, e, f], _ => exact ⟨a, b, c, d, e, f, rfl⟩
theorem pieces_size (b : UInt8) : ∀ (l cur x : List UInt8), x ∈ pieces b l cur → x.length ≤ cur.length + l.length
  | [], cur, x, h => by
    simp [pieces] at h
    subst h
    omega
  | c :: l, cur, x, h => by
    rw [pieces] at h
    by_cases e : c = b
    · rw [if_pos e] at h
      rcases List.mem_cons.1 h with rfl | h
      · simp only [List.length_cons]; omega
      · have := pieces_size b l [] x h
        simp only [List.length_nil, List.length_cons] at *
        omega
    · rw [if_neg e] at h
      have := pieces_size b l (cur ++ [c]) x h
      simp only [List.length_append, List.length_cons, List.length_nil] at *
      omega
theorem own_strs {w : World} {B e n : Nat} {v : Value} {xs : List ByteArray} (h : w.ownsRow B e 1 v n (xs.map Value.string)) : ∃ A c, v = .slice A n c := by
  rcases h.2 with ⟨rfl, h0⟩ | ⟨g, cap, cur, rfl, _⟩
  · exact ⟨_, _, by rw [h0]⟩
  · exact ⟨_, _, rfl⟩
theorem strs_at {w : World} {B e n c : Nat} {A : Option Addr} {xs : List ByteArray} (h : w.ownsRow B e 1 (.slice A n c) n (xs.map Value.string)) (h0 : 0 < n) : ∃ g, A = some ⟨g, 0, none⟩ ∧ B ≤ g ∧ g < w.heap.size ∧ ∀ k x, xs[k]? = some x → w.cell? ⟨g, k, none⟩ = some (.string x) := by
  rcases h.2 with ⟨_, e⟩ | ⟨g, cap, cur, hv, hB, hh, _⟩
  · omega
  · injection hv with hA
    subst hA
    refine ⟨g, rfl, hB, (Array.getElem?_eq_some_iff.1 hh).1, fun k x hx => ?_⟩
    have h2 := h.cells (g := g) rfl k (.string x) (by rw [List.getElem?_map, hx]; rfl)
    rw [Addr.add_lit] at h2
    simpa using h2
theorem tabW_on {w w' : World} (h : Tab w) (hb : Below w.heap.size w w') : Tab w' := fun k hk => (hb.cell (World.block_lt_of_cell? _ _ (h k hk))).trans (h k hk)
/-- A line is short. -/
theorem wd_len : ∀ k : Nat, (wd k).data.toList.length ≤ 9
  | 0 => by decide
  | 1 => by decide
  | 2 => by decide
  | 3 => by decide
  | _ + 4 => by
    show ([] : List UInt8).length ≤ 9
    decide
theorem tl_size {i s x y h l : Int} (hv : tkB i s x y h l = true) : (tlT i s x y h l).size ≤ 60 := by
  obtain ⟨hi, hp, hh, hl, -, -⟩ := tkB_yes hv
  obtain ⟨hx, hy⟩ := pB_yes hp
  have a1 := (ptx.txt_len (n := i) (by omega) (by omega)).2
  have a2 := (ptx.txt_len (n := x) (by omega) (by omega)).2
  have a3 := (ptx.txt_len (n := y) (by omega) (by omega)).2
  have a4 := (ptx.txt_len (n := h) (by omega) (by omega)).2
  have a5 := (ptx.txt_len (n := l) (by omega) (by omega)).2
  have a6 := wd_len s.toNat
  have e : (hdT i s.toNat x y h).data.toList.length = (txt i).data.toList.length + 1 + ((wd s.toNat).data.toList.length + 1 + (2 + 1 + ((txt x).data.toList.length + 1 + (txt y).data.toList.length + 1 + (4 + 1 + (txt h).data.toList.length)))) := by
    rw [hd_list']
    simp only [aid.str_app, List.length_append, List.length_cons, List.length_nil]
    have : (⟨#[44]⟩ : ByteArray).data.toList.length = 1 := rfl
    omega
  rw [← ptx.len_list]
  by_cases hz : l = 0
  · rw [tl_zero hz, e]; omega
  · rw [tl_lost hz, aid.str_app, aid.str_app, List.length_append, List.length_append, e]
    show _ + 6 + _ ≤ 60
    omega
theorem pt_size {t : ByteArray} (h : ptB t = true) : t.size ≤ 60 := by
  obtain ⟨h1, h2⟩ := pt_yes h
  have := tl_size h1
  rw [h2] at this
  exact this
theorem r_no {t : ByteArray} (h : rK t = false) : rI t = 0 ∧ rS t = 0 ∧ rX t = 0 ∧ rY t = 0 ∧ rH t = 0 ∧ rL t = 0 := by
  unfold rI rS rX rY rH rL; rw [h]; exact ⟨rfl, rfl, rfl, rfl, rfl, rfl⟩
theorem r_yes {t : ByteArray} {x0 x1 x2 x3 x4 x5 : ByteArray} (hx : [x0, x1, x2, x3, x4, x5].map (·.data.toList) = rW t) :
    rI t = rdN x0 ∧ rX t = rdN ⟨(Lib.cut x3.data.toList [44]).1.toArray⟩ ∧ rY t = rdN ⟨(Lib.cut x3.data.toList [44]).2.1.toArray⟩ ∧ rH t = rdN x5 ∧ rL t = rdN ⟨(rO t).toArray⟩ ∧ rS t = sw (rdN x5) (rdN ⟨(rO t).toArray⟩) := by
  have hk : rK t = true := by unfold rK; rw [← hx]; rfl
  have e0 : rI t = rdN x0 := by unfold rI; rw [hk, ← hx]; rfl
  have e1 : rX t = rdN ⟨(Lib.cut x3.data.toList [44]).1.toArray⟩ := by unfold rX rP; rw [hk, ← hx]; rfl
  have e2 : rY t = rdN ⟨(Lib.cut x3.data.toList [44]).2.1.toArray⟩ := by unfold rY rP; rw [hk, ← hx]; rfl
  have e3 : rH t = rdN x5 := by unfold rH; rw [hk, ← hx]; rfl
  have e4 : rL t = rdN ⟨(rO t).toArray⟩ := by unfold rL; rw [hk]; rfl
  exact ⟨e0, e1, e2, e3, e4, by unfold rS; rw [hk, e3, e4]; rfl⟩

set_option maxRecDepth 100000 in
set_option maxHeartbeats 4000000 in
theorem readLong (t : ByteArray) (w : World) (hs : t.size ≤ 1048576) (hm : Mx w) (h4 : ¬ (((rB t).length : Nat) : Int) ≤ 4000) :
    Calls Tryd.prog 51 #[.string t] w fun e w' => e = .returned (.agg #[.int .i64 0, .int .i64 0, .int .i64 0, .int .i64 0, .int .i64 0, .int .i64 0]) ∧ Below w.heap.size w w' := by
  have K1 := Lib.hid (fun (W : World) (hb : Below w.heap.size w W) => show Calls Tryd.prog 87 #[.string t, .string ⟨#[32, 108, 111, 115, 116, 32]⟩] W (fun e w' => e = .returned (.tuple #[.string ⟨(rB t).toArray⟩, .string ⟨(rO t).toArray⟩, .bool (Lib.cut t.data.toList [32, 108, 111, 115, 116, 32]).2.2]) ∧ ∃ n, w' = W.drewN n) from cut_any t ⟨#[32, 108, 111, 115, 116, 32]⟩ W hs (mx_on hm hb))
  have HS := Lib.hid (fun W => splitimpl.impl_no ⟨(rB t).toArray⟩ ⟨#[32]⟩ W (Or.inl (by show 4000 < ((rB t).length : Int); omega)))
  have Z0 := Lib.hid (newS 38 #[.int .i64 0, .int .i64 0, .int .i64 0, .int .i64 0, .int .i64 0, .int .i64 0] w)
  clear hs hm h4
  generalize (Lib.cut t.data.toList [32, 108, 111, 115, 116, 32]).2.2 = b1 at *
  generalize (⟨(rB t).toArray⟩ : ByteArray) = bf at *
  generalize (⟨(rO t).toArray⟩ : ByteArray) = lo at *
  go_enter Tryd.func51, Tryd.ntmps51
  go_wp2_with fail
  generalize w.alloc (.cells #[.int .i64 0, .int .i64 0, .int .i64 0, .int .i64 0, .int .i64 0, .int .i64 0] 38) = W0 at *
  refine (K1.out W0 Z0.out.1).mono ?_
  rintro e wx ⟨rfl, j1, rfl⟩
  have Z1 := Lib.hid (Z0.out.drewN j1)
  generalize W0.drewN j1 = W1 at *
  clear Z0 K1
  go_wp2_with fail
  refine (HS.out W1).mono ?_
  rintro e wx ⟨rfl, rfl⟩
  have z0 : W1.cell? ⟨w.heap.size, 0, none⟩ = some (.int .i64 0) := Z1.out.cell 0
  have zf0 := Z1.out.frozen 0
  have z1 : W1.cell? ⟨w.heap.size, 1, none⟩ = some (.int .i64 0) := Z1.out.cell 1
  have zf1 := Z1.out.frozen 1
  have z2 : W1.cell? ⟨w.heap.size, 2, none⟩ = some (.int .i64 0) := Z1.out.cell 2
  have zf2 := Z1.out.frozen 2
  have z3 : W1.cell? ⟨w.heap.size, 3, none⟩ = some (.int .i64 0) := Z1.out.cell 3
  have zf3 := Z1.out.frozen 3
  have z4 : W1.cell? ⟨w.heap.size, 4, none⟩ = some (.int .i64 0) := Z1.out.cell 4
  have zf4 := Z1.out.frozen 4
  have z5 : W1.cell? ⟨w.heap.size, 5, none⟩ = some (.int .i64 0) := Z1.out.cell 5
  have zf5 := Z1.out.frozen 5
  have HE := Lib.hid ((((((Z1.out.set 0 (.int .i64 0)).set 1 (.int .i64 0)).set 2 (.int .i64 0)).set 3 (.int .i64 0)).set 4 (.int .i64 0)).set 5 (.int .i64 0))
  go_wp2_with fail
  have hl := HE.out.load Tryd.underlying38 rfl (by kernel_rfl)
  refine bodyPost_ret (v := .agg #[.int .i64 0, .int .i64 0, .int .i64 0, .int .i64 0, .int .i64 0, .int .i64 0]) ?_ rfl ⟨rfl, HE.out.1⟩
  rw [results_cell1 rfl]
  simp [asAddr, Result.andThen, hl]

set_option maxRecDepth 100000 in
set_option maxHeartbeats 8000000 in
theorem readTrack (t : ByteArray) (w : World) (hs : t.size ≤ 1048576) (ht : fmt.Tab w) (hm : Mx w) (h4 : (((rB t).length : Nat) : Int) ≤ 4000) :
    Calls Tryd.prog 51 #[.string t] w fun e w' => e = .returned (.agg #[.int .i64 (rI t), .int .i64 (rS t), .int .i64 (rX t), .int .i64 (rY t), .int .i64 (rH t), .int .i64 (rL t)]) ∧ Below w.heap.size w w' := by
  have hle := cut_le t.data.toList [32, 108, 111, 115, 116, 32]
  rw [ptx.len_list] at hle
  have K1 := Lib.hid (fun (W : World) (hb : Below w.heap.size w W) => show Calls Tryd.prog 87 #[.string t, .string ⟨#[32, 108, 111, 115, 116, 32]⟩] W (fun e w' => e = .returned (.tuple #[.string ⟨(rB t).toArray⟩, .string ⟨(rO t).toArray⟩, .bool (Lib.cut t.data.toList [32, 108, 111, 115, 116, 32]).2.2]) ∧ ∃ n, w' = W.drewN n) from cut_any t ⟨#[32, 108, 111, 115, 116, 32]⟩ W hs (mx_on hm hb))
  have HS := Lib.hid (fun W => splitimpl.impl_yes ⟨(rB t).toArray⟩ ⟨#[32]⟩ W h4 (by decide) (by decide))
  have HM := Lib.hid (fun (W : World) (hb : Below w.heap.size w W) => mx_on hm hb)
  have HT := Lib.hid (fun (W : World) (hb : Below w.heap.size w W) => fmt.tab_on ht hb)
  have hlo : (⟨(rO t).toArray⟩ : ByteArray).size ≤ 1048576 := by rw [sz_of]; exact Nat.le_trans hle.2 hs
  have R4 := Lib.hid (fun (W : World) (hb : Below w.heap.size w W) => parse.impl_any ⟨(rO t).toArray⟩ W hlo (HT.out W hb))
  have Z0 := Lib.hid (newS 38 #[.int .i64 0, .int .i64 0, .int .i64 0, .int .i64 0, .int .i64 0, .int .i64 0] w)
  have HRN := Lib.hid (fun (h : rK t = false) => r_no h)
  have HRY := Lib.hid (fun (x0 x1 x2 x3 x4 x5 : ByteArray) (hx : [x0, x1, x2, x3, x4, x5].map (·.data.toList) = rW t) => r_yes hx)
  have HRK := Lib.hid (fun (xs : List ByteArray) (hx : xs.map (·.data.toList) = rW t) => show rK t = decide (xs.length = 6) by unfold rK; rw [← hx, List.length_map])
  have HSZ := Lib.hid (fun (xs : List ByteArray) (hx : xs.map (·.data.toList) = rW t) (x : ByteArray) (hm : x ∈ xs) => show x.size ≤ 1048576 by
    have h1 : x.data.toList ∈ rW t := by rw [← hx]; exact List.mem_map.2 ⟨x, hm, rfl⟩
    have h2 := pieces_size 32 _ _ _ h1
    rw [ptx.len_list] at h2
    have h3 : (rB t).length ≤ t.size := hle.1
    have h5 : ([] : List UInt8).length = 0 := rfl
    omega)
  clear hs ht hm h4 hlo hle
  generalize (Lib.cut t.data.toList [32, 108, 111, 115, 116, 32]).2.2 = b1 at *
  have HW := Lib.hid (show pieces 32 (⟨(rB t).toArray⟩ : ByteArray).data.toList [] = rW t from rfl)
  generalize hbf : (⟨(rB t).toArray⟩ : ByteArray) = bf at *
  generalize (⟨(rO t).toArray⟩ : ByteArray) = lo at *
  clear hbf
  go_enter Tryd.func51, Tryd.ntmps51
  go_wp2_with fail
  generalize w.alloc (.cells #[.int .i64 0, .int .i64 0, .int .i64 0, .int .i64 0, .int .i64 0, .int .i64 0] 38) = W0 at *
  refine (K1.out W0 Z0.out.1).mono ?_
  rintro e wx ⟨rfl, j1, rfl⟩
  have Z1 := Lib.hid (Z0.out.drewN j1)
  generalize W0.drewN j1 = W1 at *
  clear Z0 K1
  go_wp2_with fail
  refine (HS.out W1).mono ?_
  rintro e W2 ⟨v, xs, rfl, hown, hb, hpc⟩
  have hpw : xs.map (·.data.toList) = rW t := hpc.trans HW.out
  have Z2 := Lib.hid (Z1.out.old hb)
  have hK := HRK.out xs hpw
  have hsz := HSZ.out xs hpw
  obtain ⟨A, c, rfl⟩ := own_strs hown
  clear hb Z1 HS hpc
  by_cases h6 : xs.length = 6
  rotate_left
  · have q2 : ((xs.length : Int) != 6) = true := by simp; omega
    rw [decide_eq_false h6] at hK
    have HN := Lib.hid (HRN.out hK)
    generalize xs.length = xl at *
    clear hown hpw hsz hK
    have z0 : W2.cell? ⟨w.heap.size, 0, none⟩ = some (.int .i64 0) := Z2.out.cell 0
    have zf0 := Z2.out.frozen 0
    have z1 : W2.cell? ⟨w.heap.size, 1, none⟩ = some (.int .i64 0) := Z2.out.cell 1
    have zf1 := Z2.out.frozen 1
    have z2 : W2.cell? ⟨w.heap.size, 2, none⟩ = some (.int .i64 0) := Z2.out.cell 2
    have zf2 := Z2.out.frozen 2
    have z3 : W2.cell? ⟨w.heap.size, 3, none⟩ = some (.int .i64 0) := Z2.out.cell 3
    have zf3 := Z2.out.frozen 3
    have z4 : W2.cell? ⟨w.heap.size, 4, none⟩ = some (.int .i64 0) := Z2.out.cell 4
    have zf4 := Z2.out.frozen 4
    have z5 : W2.cell? ⟨w.heap.size, 5, none⟩ = some (.int .i64 0) := Z2.out.cell 5
    have zf5 := Z2.out.frozen 5
    have HE := Lib.hid ((((((Z2.out.set 0 (.int .i64 0)).set 1 (.int .i64 0)).set 2 (.int .i64 0)).set 3 (.int .i64 0)).set 4 (.int .i64 0)).set 5 (.int .i64 0))
    go_wp2_with fail
    have hl := HE.out.load Tryd.underlying38 rfl (by kernel_rfl)
    refine bodyPost_ret (v := .agg #[.int .i64 0, .int .i64 0, .int .i64 0, .int .i64 0, .int .i64 0, .int .i64 0]) ?_ rfl ⟨by rw [HN.out.1, HN.out.2.1, HN.out.2.2.1, HN.out.2.2.2.1, HN.out.2.2.2.2.1, HN.out.2.2.2.2.2], HE.out.1⟩
    rw [results_cell1 rfl]
    simp [asAddr, Result.andThen, hl]
  obtain ⟨x0, x1, x2, x3, x4, x5, rfl⟩ := six h6
  obtain ⟨gw, rfl, hgB, hgw, hcw⟩ := strs_at hown (show 0 < [x0, x1, x2, x3, x4, x5].length by rw [h6]; omega)
  have HY := Lib.hid (HRY.out x0 x1 x2 x3 x4 x5 hpw)
  have k0 := hcw 0 x0 rfl
  have k3 := hcw 3 x3 rfl
  have k5 := hcw 5 x5 rfl
  have z0 := hsz x0 (by simp)
  have z3 := hsz x3 (by simp)
  have z5 := hsz x5 (by simp)
  have hc3 := cut_le x3.data.toList [44]
  rw [ptx.len_list] at hc3
  have R0 := Lib.hid (fun (W : World) (hb : Below w.heap.size w W) => parse.impl_any x0 W z0 (HT.out W hb))
  have R3 := Lib.hid (fun (W : World) (hb : Below w.heap.size w W) => parse.impl_any x5 W z5 (HT.out W hb))
  have R1 := Lib.hid (fun (W : World) (hb : Below w.heap.size w W) => parse.impl_any ⟨(Lib.cut x3.data.toList [44]).1.toArray⟩ W (by rw [sz_of]; omega) (HT.out W hb))
  have R2 := Lib.hid (fun (W : World) (hb : Below w.heap.size w W) => parse.impl_any ⟨(Lib.cut x3.data.toList [44]).2.1.toArray⟩ W (by rw [sz_of]; omega) (HT.out W hb))
  have K3 := Lib.hid (fun (W : World) (hb : Below w.heap.size w W) => show Calls Tryd.prog 87 #[.string x3, .string ⟨#[44]⟩] W (fun e w' => e = .returned (.tuple #[.string ⟨(Lib.cut x3.data.toList [44]).1.toArray⟩, .string ⟨(Lib.cut x3.data.toList [44]).2.1.toArray⟩, .bool (Lib.cut x3.data.toList [44]).2.2]) ∧ ∃ n, w' = W.drewN n) from cut_any x3 ⟨#[44]⟩ W z3 (HM.out W hb))
  have HSW := Lib.hid (fun W => trki.stateWith (rdN x5) (rdN lo) W)
  clear hown hcw hsz h6 hpw hK z0 z3 z5 hc3 HRN HRY HRK HSZ HM HT HW
  simp only [List.length_cons, List.length_nil, Nat.zero_add, Nat.reduceAdd]
  generalize (⟨(Lib.cut x3.data.toList [44]).1.toArray⟩ : ByteArray) = sx at *
  generalize (⟨(Lib.cut x3.data.toList [44]).2.1.toArray⟩ : ByteArray) = sy at *
  generalize (Lib.cut x3.data.toList [44]).2.2 = b2 at *
  generalize rdB x0 = d0 at *
  generalize rdB sx = d1 at *
  generalize rdB sy = d2 at *
  generalize rdB x5 = d3 at *
  generalize rdB lo = d4 at *
  generalize rdN x0 = nI at *
  generalize rdN sx = nX at *
  generalize rdN sy = nY at *
  generalize rdN x5 = nH at *
  generalize rdN lo = nL at *
  generalize sw nH nL = nS at *
  go_wp2_with fail
  refine (K3.out W2 Z2.out.1).mono ?_
  rintro e wx ⟨rfl, j2, rfl⟩
  have Z3 := Lib.hid (Z2.out.drewN j2)
  have BX := Lib.hid (aid.below_drewN (Below.refl W2.heap.size W2) j2)
  generalize W2.drewN j2 = W3 at *
  clear Z2 K3 k3
  have ZA := Lib.hid (Z3.out.alloc (.cells #[.int .i64 0, .int .i64 0, .int .i64 0, .int .i64 0, .int .i64 0, .int .i64 0] 38))
  have PA := Lib.hid (Z3.out.next 38 #[.int .i64 0, .int .i64 0, .int .i64 0, .int .i64 0, .int .i64 0, .int .i64 0])
  have hne := Z3.out.2.2.1
  have BA := Lib.hid (BX.out.alloc BX.out.size (.cells #[.int .i64 0, .int .i64 0, .int .i64 0, .int .i64 0, .int .i64 0, .int .i64 0] 38))
  have hbp := BX.out.size
  clear Z3 BX
  go_upto_region 7 with fail
  generalize W3.alloc (.cells #[.int .i64 0, .int .i64 0, .int .i64 0, .int .i64 0, .int .i64 0, .int .i64 0] 38) = V0 at *
  generalize W3.heap.size = bp at *
  have k0' : V0.cell? ⟨gw, 0, none⟩ = some (.string x0) := (BA.out.cell (p := ⟨gw, 0, none⟩) hgw).trans k0
  go_wp2_with fail
  refine (R0.out V0 ZA.out.1).mono ?_
  rintro e U0 ⟨rfl, hb⟩
  have PB0 := Lib.hid (PA.out.old hb)
  have ZB0 := Lib.hid (ZA.out.old hb)
  have BB0 := Lib.hid (BA.out.trans (hb.mono BA.out.size))
  clear hb ZA PA BA k0'
  have c0 : U0.cell? ⟨bp, 0, none⟩ = some (.int .i64 0) := PB0.out.cell 0
  have cf0 := PB0.out.frozen 0
  have c1 : U0.cell? ⟨bp, 1, none⟩ = some (.int .i64 0) := PB0.out.cell 1
  have cf1 := PB0.out.frozen 1
  have c2 : U0.cell? ⟨bp, 2, none⟩ = some (.int .i64 0) := PB0.out.cell 2
  have cf2 := PB0.out.frozen 2
  have c3 : U0.cell? ⟨bp, 3, none⟩ = some (.int .i64 0) := PB0.out.cell 3
  have cf3 := PB0.out.frozen 3
  have c4 : U0.cell? ⟨bp, 4, none⟩ = some (.int .i64 0) := PB0.out.cell 4
  have cf4 := PB0.out.frozen 4
  have c5 : U0.cell? ⟨bp, 5, none⟩ = some (.int .i64 0) := PB0.out.cell 5
  have cf5 := PB0.out.frozen 5
  have PC0 := Lib.hid (show AtS 38 #[.int .i64 nI, .int .i64 0, .int .i64 0, .int .i64 0, .int .i64 0, .int .i64 0] w (U0.setCell ⟨bp, 0, none⟩ (.int .i64 nI)) bp from PB0.out.set 0 (.int .i64 nI))
  have ZC0 := Lib.hid (ZB0.out.other (b' := bp) (Nat.le_of_lt hne) (Nat.ne_of_lt hne) 0 (.int .i64 nI))
  have BC0 := Lib.hid (BB0.out.setCell (p := ⟨bp, 0, none⟩) hbp (.int .i64 nI))
  go_upto_region 8 with fail
  clear PB0 ZB0 BB0
  clear c0 cf0 c1 cf1 c2 cf2 c3 cf3 c4 cf4 c5 cf5
  generalize U0.setCell ⟨bp, 0, none⟩ (.int .i64 nI) = V1 at *
  go_wp2_with fail
  refine (R1.out V1 ZC0.out.1).mono ?_
  rintro e U1 ⟨rfl, hb⟩
  have PB1 := Lib.hid (PC0.out.old hb)
  have ZB1 := Lib.hid (ZC0.out.old hb)
  have BB1 := Lib.hid (BC0.out.trans (hb.mono BC0.out.size))
  clear hb ZC0 PC0 BC0
  have c0 : U1.cell? ⟨bp, 0, none⟩ = some (.int .i64 nI) := PB1.out.cell 0
  have cf0 := PB1.out.frozen 0
  have c1 : U1.cell? ⟨bp, 1, none⟩ = some (.int .i64 0) := PB1.out.cell 1
  have cf1 := PB1.out.frozen 1
  have c2 : U1.cell? ⟨bp, 2, none⟩ = some (.int .i64 0) := PB1.out.cell 2
  have cf2 := PB1.out.frozen 2
  have c3 : U1.cell? ⟨bp, 3, none⟩ = some (.int .i64 0) := PB1.out.cell 3
  have cf3 := PB1.out.frozen 3
  have c4 : U1.cell? ⟨bp, 4, none⟩ = some (.int .i64 0) := PB1.out.cell 4
  have cf4 := PB1.out.frozen 4
  have c5 : U1.cell? ⟨bp, 5, none⟩ = some (.int .i64 0) := PB1.out.cell 5
  have cf5 := PB1.out.frozen 5
  have PC1 := Lib.hid (show AtS 38 #[.int .i64 nI, .int .i64 0, .int .i64 nX, .int .i64 0, .int .i64 0, .int .i64 0] w (U1.setCell ⟨bp, 2, none⟩ (.int .i64 nX)) bp from PB1.out.set 2 (.int .i64 nX))
  have ZC1 := Lib.hid (ZB1.out.other (b' := bp) (Nat.le_of_lt hne) (Nat.ne_of_lt hne) 2 (.int .i64 nX))
  have BC1 := Lib.hid (BB1.out.setCell (p := ⟨bp, 2, none⟩) hbp (.int .i64 nX))
  go_upto_region 9 with fail
  clear PB1 ZB1 BB1
  clear c0 cf0 c1 cf1 c2 cf2 c3 cf3 c4 cf4 c5 cf5
  generalize U1.setCell ⟨bp, 2, none⟩ (.int .i64 nX) = V2 at *
  go_wp2_with fail
  refine (R2.out V2 ZC1.out.1).mono ?_
  rintro e U2 ⟨rfl, hb⟩
  have PB2 := Lib.hid (PC1.out.old hb)
  have ZB2 := Lib.hid (ZC1.out.old hb)
  have BB2 := Lib.hid (BC1.out.trans (hb.mono BC1.out.size))
  clear hb ZC1 PC1 BC1
  have c0 : U2.cell? ⟨bp, 0, none⟩ = some (.int .i64 nI) := PB2.out.cell 0
  have cf0 := PB2.out.frozen 0
  have c1 : U2.cell? ⟨bp, 1, none⟩ = some (.int .i64 0) := PB2.out.cell 1
  have cf1 := PB2.out.frozen 1
  have c2 : U2.cell? ⟨bp, 2, none⟩ = some (.int .i64 nX) := PB2.out.cell 2
  have cf2 := PB2.out.frozen 2
  have c3 : U2.cell? ⟨bp, 3, none⟩ = some (.int .i64 0) := PB2.out.cell 3
  have cf3 := PB2.out.frozen 3
  have c4 : U2.cell? ⟨bp, 4, none⟩ = some (.int .i64 0) := PB2.out.cell 4
  have cf4 := PB2.out.frozen 4
  have c5 : U2.cell? ⟨bp, 5, none⟩ = some (.int .i64 0) := PB2.out.cell 5
  have cf5 := PB2.out.frozen 5
  have PC2 := Lib.hid (show AtS 38 #[.int .i64 nI, .int .i64 0, .int .i64 nX, .int .i64 nY, .int .i64 0, .int .i64 0] w (U2.setCell ⟨bp, 3, none⟩ (.int .i64 nY)) bp from PB2.out.set 3 (.int .i64 nY))
  have ZC2 := Lib.hid (ZB2.out.other (b' := bp) (Nat.le_of_lt hne) (Nat.ne_of_lt hne) 3 (.int .i64 nY))
  have BC2 := Lib.hid (BB2.out.setCell (p := ⟨bp, 3, none⟩) hbp (.int .i64 nY))
  go_upto_region 10 with fail
  clear PB2 ZB2 BB2
  clear c0 cf0 c1 cf1 c2 cf2 c3 cf3 c4 cf4 c5 cf5
  generalize U2.setCell ⟨bp, 3, none⟩ (.int .i64 nY) = V3 at *
  have k5' : V3.cell? ⟨gw, 5, none⟩ = some (.string x5) := (BC2.out.cell (p := ⟨gw, 5, none⟩) hgw).trans k5
  go_wp2_with fail
  refine (R3.out V3 ZC2.out.1).mono ?_
  rintro e U3 ⟨rfl, hb⟩
  have PB3 := Lib.hid (PC2.out.old hb)
  have ZB3 := Lib.hid (ZC2.out.old hb)
  have BB3 := Lib.hid (BC2.out.trans (hb.mono BC2.out.size))
  clear hb ZC2 PC2 BC2 k5'
  have c0 : U3.cell? ⟨bp, 0, none⟩ = some (.int .i64 nI) := PB3.out.cell 0
  have cf0 := PB3.out.frozen 0
  have c1 : U3.cell? ⟨bp, 1, none⟩ = some (.int .i64 0) := PB3.out.cell 1
  have cf1 := PB3.out.frozen 1
  have c2 : U3.cell? ⟨bp, 2, none⟩ = some (.int .i64 nX) := PB3.out.cell 2
  have cf2 := PB3.out.frozen 2
  have c3 : U3.cell? ⟨bp, 3, none⟩ = some (.int .i64 nY) := PB3.out.cell 3
  have cf3 := PB3.out.frozen 3
  have c4 : U3.cell? ⟨bp, 4, none⟩ = some (.int .i64 0) := PB3.out.cell 4
  have cf4 := PB3.out.frozen 4
  have c5 : U3.cell? ⟨bp, 5, none⟩ = some (.int .i64 0) := PB3.out.cell 5
  have cf5 := PB3.out.frozen 5
  have PC3 := Lib.hid (show AtS 38 #[.int .i64 nI, .int .i64 0, .int .i64 nX, .int .i64 nY, .int .i64 nH, .int .i64 0] w (U3.setCell ⟨bp, 4, none⟩ (.int .i64 nH)) bp from PB3.out.set 4 (.int .i64 nH))
  have ZC3 := Lib.hid (ZB3.out.other (b' := bp) (Nat.le_of_lt hne) (Nat.ne_of_lt hne) 4 (.int .i64 nH))
  have BC3 := Lib.hid (BB3.out.setCell (p := ⟨bp, 4, none⟩) hbp (.int .i64 nH))
  go_upto_region 11 with fail
  clear PB3 ZB3 BB3
  clear c0 cf0 c1 cf1 c2 cf2 c3 cf3 c4 cf4 c5 cf5
  generalize U3.setCell ⟨bp, 4, none⟩ (.int .i64 nH) = V4 at *
  go_wp2_with fail
  refine (R4.out V4 ZC3.out.1).mono ?_
  rintro e U4 ⟨rfl, hb⟩
  have PB4 := Lib.hid (PC3.out.old hb)
  have ZB4 := Lib.hid (ZC3.out.old hb)
  have BB4 := Lib.hid (BC3.out.trans (hb.mono BC3.out.size))
  clear hb ZC3 PC3 BC3
  have c0 : U4.cell? ⟨bp, 0, none⟩ = some (.int .i64 nI) := PB4.out.cell 0
  have cf0 := PB4.out.frozen 0
  have c1 : U4.cell? ⟨bp, 1, none⟩ = some (.int .i64 0) := PB4.out.cell 1
  have cf1 := PB4.out.frozen 1
  have c2 : U4.cell? ⟨bp, 2, none⟩ = some (.int .i64 nX) := PB4.out.cell 2
  have cf2 := PB4.out.frozen 2
  have c3 : U4.cell? ⟨bp, 3, none⟩ = some (.int .i64 nY) := PB4.out.cell 3
  have cf3 := PB4.out.frozen 3
  have c4 : U4.cell? ⟨bp, 4, none⟩ = some (.int .i64 nH) := PB4.out.cell 4
  have cf4 := PB4.out.frozen 4
  have c5 : U4.cell? ⟨bp, 5, none⟩ = some (.int .i64 0) := PB4.out.cell 5
  have cf5 := PB4.out.frozen 5
  have PC4 := Lib.hid (show AtS 38 #[.int .i64 nI, .int .i64 0, .int .i64 nX, .int .i64 nY, .int .i64 nH, .int .i64 nL] w (U4.setCell ⟨bp, 5, none⟩ (.int .i64 nL)) bp from PB4.out.set 5 (.int .i64 nL))
  have ZC4 := Lib.hid (ZB4.out.other (b' := bp) (Nat.le_of_lt hne) (Nat.ne_of_lt hne) 5 (.int .i64 nL))
  have BC4 := Lib.hid (BB4.out.setCell (p := ⟨bp, 5, none⟩) hbp (.int .i64 nL))
  go_upto_region 12 with fail
  clear PB4 ZB4 BB4
  clear c0 cf0 c1 cf1 c2 cf2 c3 cf3 c4 cf4 c5 cf5
  generalize U4.setCell ⟨bp, 5, none⟩ (.int .i64 nL) = V5 at *
  have c0 : V5.cell? ⟨bp, 0, none⟩ = some (.int .i64 nI) := PC4.out.cell 0
  have cf0 := PC4.out.frozen 0
  have c1 : V5.cell? ⟨bp, 1, none⟩ = some (.int .i64 0) := PC4.out.cell 1
  have cf1 := PC4.out.frozen 1
  have c2 : V5.cell? ⟨bp, 2, none⟩ = some (.int .i64 nX) := PC4.out.cell 2
  have cf2 := PC4.out.frozen 2
  have c3 : V5.cell? ⟨bp, 3, none⟩ = some (.int .i64 nY) := PC4.out.cell 3
  have cf3 := PC4.out.frozen 3
  have c4 : V5.cell? ⟨bp, 4, none⟩ = some (.int .i64 nH) := PC4.out.cell 4
  have cf4 := PC4.out.frozen 4
  have c5 : V5.cell? ⟨bp, 5, none⟩ = some (.int .i64 nL) := PC4.out.cell 5
  have cf5 := PC4.out.frozen 5
  go_wp2_with fail
  refine (HSW.out V5).mono ?_
  rintro e wx ⟨rfl, rfl⟩
  have PD := Lib.hid (show AtS 38 #[.int .i64 nI, .int .i64 nS, .int .i64 nX, .int .i64 nY, .int .i64 nH, .int .i64 nL] w (V5.setCell ⟨bp, 1, none⟩ (.int .i64 nS)) bp from PC4.out.set 1 (.int .i64 nS))
  have ZD := Lib.hid (ZC4.out.other (b' := bp) (Nat.le_of_lt hne) (Nat.ne_of_lt hne) 1 (.int .i64 nS))
  go_upto_region 13 with fail
  clear c0 cf0 c1 cf1 c2 cf2 c3 cf3 c4 cf4 c5 cf5
  clear ZC4 PC4 BC4
  generalize V5.setCell ⟨bp, 1, none⟩ (.int .i64 nS) = V6 at *
  have c0 : V6.cell? ⟨bp, 0, none⟩ = some (.int .i64 nI) := PD.out.cell 0
  have cf0 := PD.out.frozen 0
  have c1 : V6.cell? ⟨bp, 1, none⟩ = some (.int .i64 nS) := PD.out.cell 1
  have cf1 := PD.out.frozen 1
  have c2 : V6.cell? ⟨bp, 2, none⟩ = some (.int .i64 nX) := PD.out.cell 2
  have cf2 := PD.out.frozen 2
  have c3 : V6.cell? ⟨bp, 3, none⟩ = some (.int .i64 nY) := PD.out.cell 3
  have cf3 := PD.out.frozen 3
  have c4 : V6.cell? ⟨bp, 4, none⟩ = some (.int .i64 nH) := PD.out.cell 4
  have cf4 := PD.out.frozen 4
  have c5 : V6.cell? ⟨bp, 5, none⟩ = some (.int .i64 nL) := PD.out.cell 5
  have cf5 := PD.out.frozen 5
  have z0 : V6.cell? ⟨w.heap.size, 0, none⟩ = some (.int .i64 0) := ZD.out.cell 0
  have zf0 := ZD.out.frozen 0
  have z1 : V6.cell? ⟨w.heap.size, 1, none⟩ = some (.int .i64 0) := ZD.out.cell 1
  have zf1 := ZD.out.frozen 1
  have z2 : V6.cell? ⟨w.heap.size, 2, none⟩ = some (.int .i64 0) := ZD.out.cell 2
  have zf2 := ZD.out.frozen 2
  have z3 : V6.cell? ⟨w.heap.size, 3, none⟩ = some (.int .i64 0) := ZD.out.cell 3
  have zf3 := ZD.out.frozen 3
  have z4 : V6.cell? ⟨w.heap.size, 4, none⟩ = some (.int .i64 0) := ZD.out.cell 4
  have zf4 := ZD.out.frozen 4
  have z5 : V6.cell? ⟨w.heap.size, 5, none⟩ = some (.int .i64 0) := ZD.out.cell 5
  have zf5 := ZD.out.frozen 5
  have HE := Lib.hid ((((((ZD.out.set 0 (.int .i64 nI)).set 1 (.int .i64 nS)).set 2 (.int .i64 nX)).set 3 (.int .i64 nY)).set 4 (.int .i64 nH)).set 5 (.int .i64 nL))
  go_wp2_with fail
  have hl := HE.out.load Tryd.underlying38 rfl (by kernel_rfl)
  refine bodyPost_ret (v := .agg #[.int .i64 nI, .int .i64 nS, .int .i64 nX, .int .i64 nY, .int .i64 nH, .int .i64 nL]) ?_ rfl ⟨by rw [HY.out.1, HY.out.2.1, HY.out.2.2.1, HY.out.2.2.2.1, HY.out.2.2.2.2.1, HY.out.2.2.2.2.2], HE.out.1⟩
  rw [results_cell1 rfl]
  simp [asAddr, Result.andThen, hl]

set_option maxRecDepth 100000 in
set_option maxHeartbeats 8000000 in
theorem parseWith (t : ByteArray) (vI vS vX vY vH vL : Int) (w : World) (ht : fmt.Tab w) (hw : Tab w)
    (HR : ∀ W, Below w.heap.size w W → Calls Tryd.prog 51 #[.string t] W fun e w' => e = .returned (.agg #[.int .i64 vI, .int .i64 vS, .int .i64 vX, .int .i64 vY, .int .i64 vH, .int .i64 vL]) ∧ Below W.heap.size W w')
    (hN : (tkB vI vS vX vY vH vL && ((tlV vI vS vX vY vH vL).toList == t.toList)) = false → ptB t = false) (hY : (tkB vI vS vX vY vH vL && ((tlV vI vS vX vY vH vL).toList == t.toList)) = true → ptB t = true ∧ rI t = vI ∧ rS t = vS ∧ rX t = vX ∧ rY t = vY ∧ rH t = vH ∧ rL t = vL) :
    Calls Tryd.prog 18 #[.string t] w fun e w' => e = .returned (.tuple #[.agg #[.int .i64 (pI t), .int .i64 (pS t), .int .i64 (pX t), .int .i64 (pY t), .int .i64 (pH t), .int .i64 (pL t)], .bool (ptB t)]) ∧ Below w.heap.size w w' := by
  have RP := Lib.hid HR
  have TT := Lib.hid (fun (W : World) (hb : Below w.heap.size w W) => trackLineI vI vS vX vY vH vL W (fmt.tab_on ht hb) (tabW_on hw hb))
  have HNo := Lib.hid (fun (h : (tkB vI vS vX vY vH vL && ((tlV vI vS vX vY vH vL).toList == t.toList)) = false) => show pI t = 0 ∧ pS t = 0 ∧ pX t = 0 ∧ pY t = 0 ∧ pH t = 0 ∧ pL t = 0 ∧ ptB t = false from ⟨(p_no (hN h)).1, (p_no (hN h)).2.1, (p_no (hN h)).2.2.1, (p_no (hN h)).2.2.2.1, (p_no (hN h)).2.2.2.2.1, (p_no (hN h)).2.2.2.2.2, hN h⟩)
  have HYe := Lib.hid (fun (h : (tkB vI vS vX vY vH vL && ((tlV vI vS vX vY vH vL).toList == t.toList)) = true) => show pI t = vI ∧ pS t = vS ∧ pX t = vX ∧ pY t = vY ∧ pH t = vH ∧ pL t = vL ∧ ptB t = true from by
    obtain ⟨h0, h1, h2, h3, h4, h5, h6⟩ := hY h
    obtain ⟨g1, g2, g3, g4, g5, g6⟩ := p_yes h0
    exact ⟨g1.trans h1, g2.trans h2, g3.trans h3, g4.trans h4, g5.trans h5, g6.trans h6, h0⟩)
  have Z0 := Lib.hid (newS 38 #[.int .i64 0, .int .i64 0, .int .i64 0, .int .i64 0, .int .i64 0, .int .i64 0] w)
  clear HR hN hY ht hw
  generalize tlV vI vS vX vY vH vL = u at *
  generalize tkB vI vS vX vY vH vL = q at *
  go_enter Tryd.func18, Tryd.ntmps18
  go_wp2_with fail
  generalize w.alloc (.cells #[.int .i64 0, .int .i64 0, .int .i64 0, .int .i64 0, .int .i64 0, .int .i64 0] 38) = W0 at *
  refine (RP.out W0 Z0.out.1).mono ?_
  rintro e W1 ⟨rfl, hb⟩
  have Z1 := Lib.hid ((Z0.out.old hb).alloc (.cells #[.int .i64 vI, .int .i64 vS, .int .i64 vX, .int .i64 vY, .int .i64 vH, .int .i64 vL] 38))
  have P1 := Lib.hid ((Z0.out.old hb).next 38 #[.int .i64 vI, .int .i64 vS, .int .i64 vX, .int .i64 vY, .int .i64 vH, .int .i64 vL])
  clear hb Z0 RP
  go_upto_region 2 with fail
  generalize W1.alloc (.cells #[.int .i64 vI, .int .i64 vS, .int .i64 vX, .int .i64 vY, .int .i64 vH, .int .i64 vL] 38) = W2 at *
  generalize W1.heap.size = bp at *
  have c0 : W2.cell? ⟨bp, 0, none⟩ = some (.int .i64 vI) := P1.out.cell 0
  have cf0 := P1.out.frozen 0
  have c1 : W2.cell? ⟨bp, 1, none⟩ = some (.int .i64 vS) := P1.out.cell 1
  have cf1 := P1.out.frozen 1
  have c2 : W2.cell? ⟨bp, 2, none⟩ = some (.int .i64 vX) := P1.out.cell 2
  have cf2 := P1.out.frozen 2
  have c3 : W2.cell? ⟨bp, 3, none⟩ = some (.int .i64 vY) := P1.out.cell 3
  have cf3 := P1.out.frozen 3
  have c4 : W2.cell? ⟨bp, 4, none⟩ = some (.int .i64 vH) := P1.out.cell 4
  have cf4 := P1.out.frozen 4
  have c5 : W2.cell? ⟨bp, 5, none⟩ = some (.int .i64 vL) := P1.out.cell 5
  have cf5 := P1.out.frozen 5
  go_wp2_with fail
  refine (TT.out W2 Z1.out.1).mono ?_
  rintro e W3 ⟨rfl, hb⟩
  have ZQ := Lib.hid (Z1.out.old hb)
  have PQ := Lib.hid (P1.out.old hb)
  clear c0 cf0 c1 cf1 c2 cf2 c3 cf3 c4 cf4 c5 cf5
  clear hb Z1 P1 TT
  cases q
  · have HN := Lib.hid (HNo.out rfl)
    have z0 : W3.cell? ⟨w.heap.size, 0, none⟩ = some (.int .i64 0) := ZQ.out.cell 0
    have zf0 := ZQ.out.frozen 0
    have z1 : W3.cell? ⟨w.heap.size, 1, none⟩ = some (.int .i64 0) := ZQ.out.cell 1
    have zf1 := ZQ.out.frozen 1
    have z2 : W3.cell? ⟨w.heap.size, 2, none⟩ = some (.int .i64 0) := ZQ.out.cell 2
    have zf2 := ZQ.out.frozen 2
    have z3 : W3.cell? ⟨w.heap.size, 3, none⟩ = some (.int .i64 0) := ZQ.out.cell 3
    have zf3 := ZQ.out.frozen 3
    have z4 : W3.cell? ⟨w.heap.size, 4, none⟩ = some (.int .i64 0) := ZQ.out.cell 4
    have zf4 := ZQ.out.frozen 4
    have z5 : W3.cell? ⟨w.heap.size, 5, none⟩ = some (.int .i64 0) := ZQ.out.cell 5
    have zf5 := ZQ.out.frozen 5
    have HE := Lib.hid ((((((ZQ.out.set 0 (.int .i64 0)).set 1 (.int .i64 0)).set 2 (.int .i64 0)).set 3 (.int .i64 0)).set 4 (.int .i64 0)).set 5 (.int .i64 0))
    go_wp2_with fail
    have hl := HE.out.load Tryd.underlying38 rfl (by kernel_rfl)
    refine bodyPost_ret (v := .tuple #[.agg #[.int .i64 0, .int .i64 0, .int .i64 0, .int .i64 0, .int .i64 0, .int .i64 0], .bool false]) ?_ rfl ⟨by rw [HN.out.1, HN.out.2.1, HN.out.2.2.1, HN.out.2.2.2.1, HN.out.2.2.2.2.1, HN.out.2.2.2.2.2.1, HN.out.2.2.2.2.2.2], HE.out.1⟩
    rw [results_cell_tmp rfl]
    simp [asAddr, Result.andThen, hl]
  · cases hc : (u.toList == t.toList)
    · have HN := Lib.hid (HNo.out (by rw [hc]; rfl))
      have z0 : W3.cell? ⟨w.heap.size, 0, none⟩ = some (.int .i64 0) := ZQ.out.cell 0
      have zf0 := ZQ.out.frozen 0
      have z1 : W3.cell? ⟨w.heap.size, 1, none⟩ = some (.int .i64 0) := ZQ.out.cell 1
      have zf1 := ZQ.out.frozen 1
      have z2 : W3.cell? ⟨w.heap.size, 2, none⟩ = some (.int .i64 0) := ZQ.out.cell 2
      have zf2 := ZQ.out.frozen 2
      have z3 : W3.cell? ⟨w.heap.size, 3, none⟩ = some (.int .i64 0) := ZQ.out.cell 3
      have zf3 := ZQ.out.frozen 3
      have z4 : W3.cell? ⟨w.heap.size, 4, none⟩ = some (.int .i64 0) := ZQ.out.cell 4
      have zf4 := ZQ.out.frozen 4
      have z5 : W3.cell? ⟨w.heap.size, 5, none⟩ = some (.int .i64 0) := ZQ.out.cell 5
      have zf5 := ZQ.out.frozen 5
      have HE := Lib.hid ((((((ZQ.out.set 0 (.int .i64 0)).set 1 (.int .i64 0)).set 2 (.int .i64 0)).set 3 (.int .i64 0)).set 4 (.int .i64 0)).set 5 (.int .i64 0))
      go_wp2_with fail
      have hl := HE.out.load Tryd.underlying38 rfl (by kernel_rfl)
      refine bodyPost_ret (v := .tuple #[.agg #[.int .i64 0, .int .i64 0, .int .i64 0, .int .i64 0, .int .i64 0, .int .i64 0], .bool false]) ?_ rfl ⟨by rw [HN.out.1, HN.out.2.1, HN.out.2.2.1, HN.out.2.2.2.1, HN.out.2.2.2.2.1, HN.out.2.2.2.2.2.1, HN.out.2.2.2.2.2.2], HE.out.1⟩
      rw [results_cell_tmp rfl]
      simp [asAddr, Result.andThen, hl]
    · have HY := Lib.hid (HYe.out (by rw [hc]; rfl))
      have c0 : W3.cell? ⟨bp, 0, none⟩ = some (.int .i64 vI) := PQ.out.cell 0
      have cf0 := PQ.out.frozen 0
      have c1 : W3.cell? ⟨bp, 1, none⟩ = some (.int .i64 vS) := PQ.out.cell 1
      have cf1 := PQ.out.frozen 1
      have c2 : W3.cell? ⟨bp, 2, none⟩ = some (.int .i64 vX) := PQ.out.cell 2
      have cf2 := PQ.out.frozen 2
      have c3 : W3.cell? ⟨bp, 3, none⟩ = some (.int .i64 vY) := PQ.out.cell 3
      have cf3 := PQ.out.frozen 3
      have c4 : W3.cell? ⟨bp, 4, none⟩ = some (.int .i64 vH) := PQ.out.cell 4
      have cf4 := PQ.out.frozen 4
      have c5 : W3.cell? ⟨bp, 5, none⟩ = some (.int .i64 vL) := PQ.out.cell 5
      have cf5 := PQ.out.frozen 5
      have z0 : W3.cell? ⟨w.heap.size, 0, none⟩ = some (.int .i64 0) := ZQ.out.cell 0
      have zf0 := ZQ.out.frozen 0
      have z1 : W3.cell? ⟨w.heap.size, 1, none⟩ = some (.int .i64 0) := ZQ.out.cell 1
      have zf1 := ZQ.out.frozen 1
      have z2 : W3.cell? ⟨w.heap.size, 2, none⟩ = some (.int .i64 0) := ZQ.out.cell 2
      have zf2 := ZQ.out.frozen 2
      have z3 : W3.cell? ⟨w.heap.size, 3, none⟩ = some (.int .i64 0) := ZQ.out.cell 3
      have zf3 := ZQ.out.frozen 3
      have z4 : W3.cell? ⟨w.heap.size, 4, none⟩ = some (.int .i64 0) := ZQ.out.cell 4
      have zf4 := ZQ.out.frozen 4
      have z5 : W3.cell? ⟨w.heap.size, 5, none⟩ = some (.int .i64 0) := ZQ.out.cell 5
      have zf5 := ZQ.out.frozen 5
      have HE := Lib.hid ((((((ZQ.out.set 0 (.int .i64 vI)).set 1 (.int .i64 vS)).set 2 (.int .i64 vX)).set 3 (.int .i64 vY)).set 4 (.int .i64 vH)).set 5 (.int .i64 vL))
      go_wp2_with fail
      have hl := HE.out.load Tryd.underlying38 rfl (by kernel_rfl)
      refine bodyPost_ret (v := .tuple #[.agg #[.int .i64 vI, .int .i64 vS, .int .i64 vX, .int .i64 vY, .int .i64 vH, .int .i64 vL], .bool true]) ?_ rfl ⟨by rw [HY.out.1, HY.out.2.1, HY.out.2.2.1, HY.out.2.2.2.1, HY.out.2.2.2.2.1, HY.out.2.2.2.2.2.1, HY.out.2.2.2.2.2.2], HE.out.1⟩
      rw [results_cell_tmp rfl]
      simp [asAddr, Result.andThen, hl]

theorem parseTrackLineI (t : ByteArray) (w : World) (hs : t.size ≤ 1048576) (ht : fmt.Tab w) (hw : Tab w) (hm : Mx w) :
    Calls Tryd.prog 18 #[.string t] w fun e w' => e = .returned (.tuple #[.agg #[.int .i64 (pI t), .int .i64 (pS t), .int .i64 (pX t), .int .i64 (pY t), .int .i64 (pH t), .int .i64 (pL t)], .bool (ptB t)]) ∧ Below w.heap.size w w' := by
  by_cases h4 : (((rB t).length : Nat) : Int) ≤ 4000
  · exact parseWith t (rI t) (rS t) (rX t) (rY t) (rH t) (rL t) w ht hw (fun W hb => readTrack t W hs (fmt.tab_on ht hb) (mx_on hm hb) h4) (fun h => (pt_is t).trans h) (fun h => ⟨(pt_is t).trans h, rfl, rfl, rfl, rfl, rfl, rfl⟩)
  · have hle := (cut_le t.data.toList [32, 108, 111, 115, 116, 32]).1
    rw [ptx.len_list] at hle
    have h60 : ptB t = false := by
      cases h : ptB t
      · rfl
      · have h1 := pt_size h
        have h2 : (rB t).length ≤ t.size := hle
        omega
    exact parseWith t 0 0 0 0 0 0 w ht hw (fun W hb => readLong t W hs (mx_on hm hb) h4) (fun _ => h60) (fun h => by rw [show tkB 0 0 0 0 0 0 = false from rfl, Bool.false_and] at h; cases h)
end Go.Proofs.YtedocpocfpopgaaDoor.trka
