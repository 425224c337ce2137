/- spec's ParseVelocity. -/
import Derived.Test.YtdeghpihcddlgaaDoorVelQ
import Derived.Test.YtdeghpihcddlgaaDoorHgtH
namespace Go.Proofs.YtdeghpihcddlgaaDoor.velr
open Go.RowKit Go.Proofs.YtdeghpihcddlgaaDoor.vel Go.Proofs.YtdeghpihcddlgaaDoor.ats Go.Proofs.YtdeghpihcddlgaaDoor.num Go.Proofs.YtdeghpihcddlgaaDoor.read Go.Proofs.YtdeghpihcddlgaaDoor.velw Go.Proofs.YtdeghpihcddlgaaDoor.vely Go.Proofs.YtdeghpihcddlgaaDoor.velp Go.Proofs.YtdeghpihcddlgaaDoor.split_

theorem pieces_ne (b : UInt8) : ∀ l cur, pieces b l cur ≠ []
  | [], cur => by simp [pieces]
  | a :: l, cur => by
    rw [pieces]
    split
    · simp
    · exact pieces_ne b l _
theorem ap_78 {n x y : Int} : ap 78 n x y = (x, n) := by unfold ap; rw [if_pos rfl]
theorem ap_83 {n x y : Int} : ap 83 n x y = (x, -n) := by unfold ap; rw [if_neg (by decide), if_pos rfl]
theorem ap_69 {n x y : Int} : ap 69 n x y = (n, y) := by unfold ap; rw [if_neg (by decide), if_neg (by decide), if_pos rfl]
theorem ap_87 {n x y : Int} : ap 87 n x y = (-n, y) := by unfold ap; rw [if_neg (by decide), if_neg (by decide), if_neg (by decide), if_pos rfl]
theorem int_of (v : Int) : intOf (.int .i64 v) = v := rfl
theorem meas {n k : Nat} (h : k < n) (hn : n ≤ 1048577) : n - (intOf (.int .i64 (wrap64 ((k : Int) + 1)))).toNat < n - (intOf (.int .i64 (k : Int))).toNat := by
  have e : wrap64 ((k : Int) + 1) = (k : Int) + 1 := IntWalk.wrap64_in ((k : Int) + 1) ⟨by omega, by omega⟩
  rw [int_of, int_of, e, show ((k : Int) + 1).toNat = k + 1 by omega, Int.toNat_natCast]
  omega
theorem next_eq {n k : Nat} (h : k < n) (hn : n ≤ 1048577) : Value.int .i64 (wrap64 ((k : Int) + 1)) = Value.int .i64 ((k + 1 : Nat) : Int) := by
  have e : wrap64 ((k : Int) + 1) = (k : Int) + 1 := IntWalk.wrap64_in ((k : Int) + 1) ⟨by omega, by omega⟩
  rw [e, Int.natCast_add, Int.natCast_one]
theorem len_l (s : ByteArray) : s.data.toList.length = s.size := (list_size s).symm
theorem pieces_size (b : UInt8) : ∀ (l cur x : List UInt8), x ∈ pieces b l cur → x.length ≤ cur.length + l.length
  | [], cur, x, h => by
    simp [pieces] at h
    subst h
    omega
  | c :: l, cur, x, h => by
    rw [pieces] at h
    by_cases e : c = b
    · rw [if_pos e] at h
      rcases List.mem_cons.1 h with rfl | h
      · simp only [List.length_cons]; omega
      · have := pieces_size b l [] x h
        simp only [List.length_nil, List.length_cons] at *
        omega
    · rw [if_neg e] at h
      have := pieces_size b l (cur ++ [c]) x h
      simp only [List.length_append, List.length_cons, List.length_nil] at *
      omega
theorem xs_size {s : ByteArray} {xs : List ByteArray} (h : xs.map (·.data.toList) = pieces 32 s.data.toList []) {x : ByteArray} (hx : x ∈ xs) : x.size ≤ s.size := by
  have hm : x.data.toList ∈ pieces 32 s.data.toList [] := by rw [← h]; exact List.mem_map.2 ⟨x, hx, rfl⟩
  have := pieces_size 32 _ _ _ hm
  rw [len_l, len_l] at this
  simpa using this
theorem ne_byte {c d : UInt8} (h : ¬ c = d) : ((c.toNat : Int) == (d.toNat : Int)) = false := by
  have : c.toNat ≠ d.toNat := fun e => h (UInt8.toNat_inj.1 e)
  simp
  omega
theorem ap_none {c : UInt8} {n x y : Int} (h1 : ¬ c = 78) (h2 : ¬ c = 83) (h3 : ¬ c = 69) (h4 : ¬ c = 87) : ap c n x y = (x, y) := by unfold ap; rw [if_neg h1, if_neg h2, if_neg h3, if_neg h4]
theorem fw_one {t : ByteArray} {l : List ByteArray} {x y n : Int} {c : UInt8} (h : wd t = some (c, n)) : fw (t :: l) x y = fw l (ap c n x y).1 (ap c n x y).2 := by
  show (match wd t with
    | none => none
    | some (c, n) => fw l (ap c n x y).1 (ap c n x y).2) = _
  rw [h]
theorem fw_no {t : ByteArray} {l : List ByteArray} {x y : Int} (h : wd t = none) : fw (t :: l) x y = none := by
  show (match wd t with
    | none => none
    | some (c, n) => fw l (ap c n x y).1 (ap c n x y).2) = _
  rw [h]
theorem wd_short {t : ByteArray} (h : t.size < 2) : wd t = none := by unfold wd; rw [if_pos h]
theorem wd_bad {t : ByteArray} {m : Nat} (h : t.size = m + 1) (hr : rdB (t.extract 0 m) = false) : wd t = none := by
  unfold wd
  rw [h, Nat.add_sub_cancel, hr]
  split <;> rfl
theorem wd_good {t : ByteArray} {m : Nat} (h : t.size = m + 1) (h1 : 1 ≤ m) (hm : m < t.size) (hr : rdB (t.extract 0 m) = true) : wd t = some (t[m], rdN (t.extract 0 m)) := by
  unfold wd
  rw [if_neg (by omega), h, Nat.add_sub_cancel, hr, if_pos rfl]
  congr 2
  rw [List.getD_eq_getElem?_getD, List.getElem?_eq_getElem (by rw [← list_size]; exact hm)]
  rfl

set_option maxRecDepth 100000 in
set_option maxHeartbeats 16000000 in
theorem specParse (s : ByteArray) (w : World) (hs : s.size ≤ 1048576) :
    Calls Tryd.prog 20 #[.string s] w fun e w' => e = .returned (.tuple #[.agg #[.int .i64 (pvX s), .int .i64 (pvY s)], .bool (pvB s)]) ∧ Below w.heap.size w w' := by
  have HN := Lib.hid (fun h => pv_no (s := s) h)
  have HY := Lib.hid (fun h => pv_yes (s := s) h)
  have HS := Lib.hid (fun w => l1Split s 32 w hs)
  have Z0 := Lib.hid ((newS 25 #[.int .i64 0, .int .i64 0] w).alloc (.cells #[.int .i64 0, .int .i64 0] 25))
  have V0 := Lib.hid ((newS 25 #[.int .i64 0, .int .i64 0] w).next 25 #[.int .i64 0, .int .i64 0])
  rw [World.size_alloc] at V0
  have HZ := Lib.hid (show ((w.alloc (.cells #[.int .i64 0, .int .i64 0] 25)).alloc (.cells #[.int .i64 0, .int .i64 0] 25)).heap.size = w.heap.size + 1 + 1 by rw [World.size_alloc, World.size_alloc])
  go_enter Tryd.func20, Tryd.ntmps20
  go_wp2_with fail
  generalize (w.alloc (.cells #[.int .i64 0, .int .i64 0] 25)).alloc (.cells #[.int .i64 0, .int .i64 0] 25) = W at *
  refine (HS.out _).mono ?_
  rintro e w1 ⟨v, xs, rfl, hown, hb1, hpc⟩
  have Z1 := Lib.hid (Z0.out.old hb1)
  have V1 := Lib.hid (V0.out.old hb1)
  have hne : xs ≠ [] := fun h => by rw [h] at hpc; exact pieces_ne _ _ _ hpc.symm
  have hpos : 0 < xs.length := List.length_pos_iff.2 hne
  have hsl : ∃ g c, v = .slice (some ⟨g, 0, none⟩) xs.length c ∧ W.heap.size ≤ g := by
    rcases hown.2 with ⟨rfl, h0⟩ | ⟨g, cap, cur, rfl, hge, _⟩
    · first | omega | (simp at h0; omega)
    · exact ⟨_, _, rfl, by first | exact hge | exact hge.1⟩
  obtain ⟨g, c, rfl, hge⟩ := hsl
  have HC1 := Lib.hid (show ∀ (k : Nat) (t : ByteArray), xs[k]? = some t → w1.cell? ⟨g, k, none⟩ = some (.string t) from fun k t h => by
    have h2 := hown.cells (g := g) rfl k (.string t) (by rw [List.getElem?_map, h]; rfl)
    rw [Addr.add_lit] at h2
    simpa using h2)
  have HG := Lib.hid (show w.heap.size + 1 < g by have := HZ.out; omega)
  have hsz : ∀ t ∈ xs, t.size ≤ 1048576 := fun t ht => Nat.le_trans (xs_size hpc ht) hs
  clear hown hb1 hge hne Z0 V0 HZ HS
  have HXL := Lib.hid (show xs.length ≤ 1048577 by have h1 := pieces_length 32 s.data.toList []; rw [← hpc, List.length_map, len_l] at h1; omega)
  have hsi : (s.size : Int) ≤ 1048576 := by omega
  go_wp2_with fail
  go_loopw [6] (fun i wr => ∃ (k : Nat) (x y : Int), i = .int .i64 k ∧ k ≤ xs.length ∧ (okS s = true → fw (xs.drop k) x y = FF s xs) ∧ (okS s = false → k = 0 ∧ x = 0 ∧ y = 0) ∧ AtS 25 #[.int .i64 0, .int .i64 0] w wr w.heap.size ∧ AtS 25 #[.int .i64 x, .int .i64 y] w wr (w.heap.size + 1) ∧ (∀ (k : Nat) (t : ByteArray), xs[k]? = some t → wr.cell? ⟨g, k, none⟩ = some (.string t))) (fun i _ => xs.length - (intOf i).toNat)
  case atStart => exact ⟨0, 0, 0, rfl, Nat.zero_le _, fun h => by unfold FF; rw [if_pos h, List.drop_zero], fun _ => ⟨rfl, rfl, rfl⟩, Z1.out, V1.out, HC1.out⟩
  case round =>
    obtain ⟨k, x, y, rfl, hk, hF, h0, hz, hv, hc⟩ := hrel
    have RZ := Lib.hid hz
    have RV := Lib.hid hv
    have HC := Lib.hid hc
    clear hz hv hc Z1 V1 HC1
    cases hok : okS s
    · obtain ⟨rfl, rfl, rfl⟩ := h0 hok
      have hF : FF s xs = some (0, 0) := by unfold FF; rw [hok]; rfl
      clear h0
      have hcond : s.size ≤ 10 → (s.toList == [48]) = true := fun h => by
        unfold okS at hok
        rw [decide_eq_true h] at hok
        simpa using hok
      clear hok
      have hltI : (0 : Int) < (xs.length : Int) := by omega
      obtain ⟨x, y, hF, RV⟩ : ∃ x y, FF s xs = some (x, y) ∧ Hid (AtS 25 #[.int .i64 x, .int .i64 y] w wr (w.heap.size + 1)) := ⟨0, 0, hF, RV⟩
      by_cases hten : s.size ≤ 10
      · have q1 : decide ((s.size : Int) ≤ 10) = true := decide_eq_true (by omega)
        have q2 := hcond hten
        clear hcond hten
        have G8 := fun w => vels.good8 x y w
        have T8 := fun h w => text8 x y h w
        have HO := Lib.hid (fun h => pv_other hpc hF h)
        have HGo := Lib.hid (fun h1 h2 => pv_good (s := s) (x := x) (y := y) h1 h2)
        cases hv : vB x y
        · have HR := Lib.hid (HN.out (HO.out (Or.inl hv)))
          rw [hv] at G8
          have G := Lib.hid G8
          clear G8 T8 hv HO HGo hF
          have v0 : wr.cell? ⟨w.heap.size + 1, 0, none⟩ = some (.int .i64 x) := RV.out.cell 0
          have v1 : wr.cell? ⟨w.heap.size + 1, 1, none⟩ = some (.int .i64 y) := RV.out.cell 1
          go_wp2_with fail
          refine (G.out _).mono ?_
          rintro e wf ⟨rfl, hbf⟩
          have RZ := Lib.hid (RZ.out.old hbf)
          clear hbf RV v0 v1
          have z0 : wf.cell? ⟨w.heap.size, 0, none⟩ = some (.int .i64 0) := RZ.out.cell 0
          have z1 : wf.cell? ⟨w.heap.size, 1, none⟩ = some (.int .i64 0) := RZ.out.cell 1
          have zf0 := RZ.out.frozen 0
          have zf1 := RZ.out.frozen 1
          go_wp2_with fail
          have HE := Lib.hid ((RZ.out.set 0 (.int .i64 0)).set 1 (.int .i64 0))
          have hl := HE.out.load Tryd.underlying25 rfl (by kernel_rfl)
          refine bodyPost_ret (v := .tuple #[.agg #[.int .i64 0, .int .i64 0], .bool false]) ?_ rfl ⟨by rw [HR.out], HE.out.1⟩
          rw [results_cell_tmp rfl]
          simp [asAddr, Result.andThen, hl]
        · have T := Lib.hid (fun w => T8 hv w)
          rw [hv] at G8
          have G := Lib.hid G8
          have HO2 := Lib.hid (fun h => HO.out (Or.inr h))
          have HG2 := Lib.hid (fun h => HGo.out hv h)
          clear G8 T8 hv HO HGo hF
          generalize vt x y = tt at *
          have v0 : wr.cell? ⟨w.heap.size + 1, 0, none⟩ = some (.int .i64 x) := RV.out.cell 0
          have v1 : wr.cell? ⟨w.heap.size + 1, 1, none⟩ = some (.int .i64 y) := RV.out.cell 1
          go_wp2_with fail
          refine (G.out _).mono ?_
          rintro e wf ⟨rfl, hbf⟩
          have RZ := Lib.hid (RZ.out.old hbf)
          have RV := Lib.hid (RV.out.old hbf)
          clear hbf v0 v1
          have v0 : wf.cell? ⟨w.heap.size + 1, 0, none⟩ = some (.int .i64 x) := RV.out.cell 0
          have v1 : wf.cell? ⟨w.heap.size + 1, 1, none⟩ = some (.int .i64 y) := RV.out.cell 1
          go_wp2_with fail
          refine (T.out _).mono ?_
          rintro e wg ⟨rfl, hbg⟩
          have RZ := Lib.hid (RZ.out.old hbg)
          have RV := Lib.hid (RV.out.old hbg)
          clear hbg v0 v1
          have v0 : wg.cell? ⟨w.heap.size + 1, 0, none⟩ = some (.int .i64 x) := RV.out.cell 0
          have v1 : wg.cell? ⟨w.heap.size + 1, 1, none⟩ = some (.int .i64 y) := RV.out.cell 1
          have z0 : wg.cell? ⟨w.heap.size, 0, none⟩ = some (.int .i64 0) := RZ.out.cell 0
          have z1 : wg.cell? ⟨w.heap.size, 1, none⟩ = some (.int .i64 0) := RZ.out.cell 1
          have zf0 := RZ.out.frozen 0
          have zf1 := RZ.out.frozen 1
          cases hc : (tt.toList == s.toList)
          · have HR := Lib.hid (HN.out (HO2.out hc))
            go_wp2_with fail
            have HE := Lib.hid ((RZ.out.set 0 (.int .i64 0)).set 1 (.int .i64 0))
            have hl := HE.out.load Tryd.underlying25 rfl (by kernel_rfl)
            refine bodyPost_ret (v := .tuple #[.agg #[.int .i64 0, .int .i64 0], .bool false]) ?_ rfl ⟨by rw [HR.out], HE.out.1⟩
            rw [results_cell_tmp rfl]
            simp [asAddr, Result.andThen, hl]
          · have HR := Lib.hid (by have h3 := HG2.out hc; have h4 := HY.out h3.1; rw [h3.2.1, h3.2.2] at h4; exact h4)
            go_wp2_with fail
            have HE := Lib.hid ((RZ.out.set 0 (.int .i64 x)).set 1 (.int .i64 y))
            have hl := HE.out.load Tryd.underlying25 rfl (by kernel_rfl)
            refine bodyPost_ret (v := .tuple #[.agg #[.int .i64 x, .int .i64 y], .bool true]) ?_ rfl ⟨by rw [HR], HE.out.1⟩
            rw [results_cell_tmp rfl]
            simp [asAddr, Result.andThen, hl]
      · have q1 : decide ((s.size : Int) ≤ 10) = false := decide_eq_false (by omega)
        clear hcond hten
        have G8 := fun w => vels.good8 x y w
        have T8 := fun h w => text8 x y h w
        have HO := Lib.hid (fun h => pv_other hpc hF h)
        have HGo := Lib.hid (fun h1 h2 => pv_good (s := s) (x := x) (y := y) h1 h2)
        cases hv : vB x y
        · have HR := Lib.hid (HN.out (HO.out (Or.inl hv)))
          rw [hv] at G8
          have G := Lib.hid G8
          clear G8 T8 hv HO HGo hF
          have v0 : wr.cell? ⟨w.heap.size + 1, 0, none⟩ = some (.int .i64 x) := RV.out.cell 0
          have v1 : wr.cell? ⟨w.heap.size + 1, 1, none⟩ = some (.int .i64 y) := RV.out.cell 1
          go_wp2_with fail
          refine (G.out _).mono ?_
          rintro e wf ⟨rfl, hbf⟩
          have RZ := Lib.hid (RZ.out.old hbf)
          clear hbf RV v0 v1
          have z0 : wf.cell? ⟨w.heap.size, 0, none⟩ = some (.int .i64 0) := RZ.out.cell 0
          have z1 : wf.cell? ⟨w.heap.size, 1, none⟩ = some (.int .i64 0) := RZ.out.cell 1
          have zf0 := RZ.out.frozen 0
          have zf1 := RZ.out.frozen 1
          go_wp2_with fail
          have HE := Lib.hid ((RZ.out.set 0 (.int .i64 0)).set 1 (.int .i64 0))
          have hl := HE.out.load Tryd.underlying25 rfl (by kernel_rfl)
          refine bodyPost_ret (v := .tuple #[.agg #[.int .i64 0, .int .i64 0], .bool false]) ?_ rfl ⟨by rw [HR.out], HE.out.1⟩
          rw [results_cell_tmp rfl]
          simp [asAddr, Result.andThen, hl]
        · have T := Lib.hid (fun w => T8 hv w)
          rw [hv] at G8
          have G := Lib.hid G8
          have HO2 := Lib.hid (fun h => HO.out (Or.inr h))
          have HG2 := Lib.hid (fun h => HGo.out hv h)
          clear G8 T8 hv HO HGo hF
          generalize vt x y = tt at *
          have v0 : wr.cell? ⟨w.heap.size + 1, 0, none⟩ = some (.int .i64 x) := RV.out.cell 0
          have v1 : wr.cell? ⟨w.heap.size + 1, 1, none⟩ = some (.int .i64 y) := RV.out.cell 1
          go_wp2_with fail
          refine (G.out _).mono ?_
          rintro e wf ⟨rfl, hbf⟩
          have RZ := Lib.hid (RZ.out.old hbf)
          have RV := Lib.hid (RV.out.old hbf)
          clear hbf v0 v1
          have v0 : wf.cell? ⟨w.heap.size + 1, 0, none⟩ = some (.int .i64 x) := RV.out.cell 0
          have v1 : wf.cell? ⟨w.heap.size + 1, 1, none⟩ = some (.int .i64 y) := RV.out.cell 1
          go_wp2_with fail
          refine (T.out _).mono ?_
          rintro e wg ⟨rfl, hbg⟩
          have RZ := Lib.hid (RZ.out.old hbg)
          have RV := Lib.hid (RV.out.old hbg)
          clear hbg v0 v1
          have v0 : wg.cell? ⟨w.heap.size + 1, 0, none⟩ = some (.int .i64 x) := RV.out.cell 0
          have v1 : wg.cell? ⟨w.heap.size + 1, 1, none⟩ = some (.int .i64 y) := RV.out.cell 1
          have z0 : wg.cell? ⟨w.heap.size, 0, none⟩ = some (.int .i64 0) := RZ.out.cell 0
          have z1 : wg.cell? ⟨w.heap.size, 1, none⟩ = some (.int .i64 0) := RZ.out.cell 1
          have zf0 := RZ.out.frozen 0
          have zf1 := RZ.out.frozen 1
          cases hc : (tt.toList == s.toList)
          · have HR := Lib.hid (HN.out (HO2.out hc))
            go_wp2_with fail
            have HE := Lib.hid ((RZ.out.set 0 (.int .i64 0)).set 1 (.int .i64 0))
            have hl := HE.out.load Tryd.underlying25 rfl (by kernel_rfl)
            refine bodyPost_ret (v := .tuple #[.agg #[.int .i64 0, .int .i64 0], .bool false]) ?_ rfl ⟨by rw [HR.out], HE.out.1⟩
            rw [results_cell_tmp rfl]
            simp [asAddr, Result.andThen, hl]
          · have HR := Lib.hid (by have h3 := HG2.out hc; have h4 := HY.out h3.1; rw [h3.2.1, h3.2.2] at h4; exact h4)
            go_wp2_with fail
            have HE := Lib.hid ((RZ.out.set 0 (.int .i64 x)).set 1 (.int .i64 y))
            have hl := HE.out.load Tryd.underlying25 rfl (by kernel_rfl)
            refine bodyPost_ret (v := .tuple #[.agg #[.int .i64 x, .int .i64 y], .bool true]) ?_ rfl ⟨by rw [HR], HE.out.1⟩
            rw [results_cell_tmp rfl]
            simp [asAddr, Result.andThen, hl]
    · have HK := Lib.hid hok
      have hF := hF hok
      have hcond1 : decide ((s.size : Int) ≤ 10) = true := by
        unfold okS at hok
        rw [Bool.and_eq_true] at hok
        exact decide_eq_true (by have := of_decide_eq_true hok.1; omega)
      have hcond2 : (s.toList == [48]) = false := by
        unfold okS at hok
        rw [Bool.and_eq_true] at hok
        simpa using hok.2
      clear hok h0
      by_cases hlt : k < xs.length
      · have HL := Lib.hid hlt
        have hltI : (k : Int) < (xs.length : Int) := by omega
        obtain ⟨t, ht⟩ : ∃ t, xs[k]? = some t := ⟨_, List.getElem?_eq_getElem hlt⟩
        have hct := HC.out k t ht
        have hts := hsz t (List.mem_of_getElem? ht)
        have hdrop : xs.drop k = t :: xs.drop (k + 1) := by
          rw [List.drop_eq_getElem_cons hlt]
          rw [List.getElem?_eq_getElem hlt] at ht
          rw [Option.some.inj ht]
        clear ht
        by_cases h2 : t.size < 2
        · have HR := Lib.hid (HN.out (pv_none hpc (by rw [← hF, hdrop, fw_no (wd_short h2)])))
          have e1 : ((t.size : Int) - 1 < 1) = True := eq_true (by omega)
          clear hF hdrop
          have z0 : wr.cell? ⟨w.heap.size, 0, none⟩ = some (.int .i64 0) := RZ.out.cell 0
          have z1 : wr.cell? ⟨w.heap.size, 1, none⟩ = some (.int .i64 0) := RZ.out.cell 1
          have zf0 := RZ.out.frozen 0
          have zf1 := RZ.out.frozen 1
          go_wp2_with fail
          have HE := Lib.hid ((RZ.out.set 0 (.int .i64 0)).set 1 (.int .i64 0))
          have hl := HE.out.load Tryd.underlying25 rfl (by kernel_rfl)
          refine bodyPost_ret (v := .tuple #[.agg #[.int .i64 0, .int .i64 0], .bool false]) ?_ rfl ⟨by rw [HR.out], HE.out.1⟩
          rw [results_cell_tmp rfl]
          simp [asAddr, Result.andThen, hl]
        · obtain ⟨m, hm⟩ : ∃ m, t.size = m + 1 := ⟨t.size - 1, by omega⟩
          have e1 : (t.size : Int) - 1 = (m : Int) := by omega
          have hm1 : 1 ≤ m := by omega
          have hmt : m < t.size := by omega
          have hmI : (m : Int) < (t.size : Int) := by omega
          have hmL : (m : Int) ≤ (t.size : Int) := by omega
          have e2 : decide ((m : Int) < 1) = false := decide_eq_false (by omega)
          have hR := fun w => hgth.l1Read (t.extract 0 m) w
          cases hr : rdB (t.extract 0 m)
          · have HR := Lib.hid (HN.out (pv_none hpc (by rw [← hF, hdrop, fw_no (wd_bad hm hr)])))
            rw [hr] at hR
            have HRd := Lib.hid hR
            clear hF hdrop hR hr hm h2
            go_wp2_with fail
            refine (HRd.out _).mono ?_
            rintro e w2 ⟨rfl, j, rfl⟩
            have RZ := Lib.hid (RZ.out.drewN j)
            generalize wr.drewN j = w2 at *
            have z0 : w2.cell? ⟨w.heap.size, 0, none⟩ = some (.int .i64 0) := RZ.out.cell 0
            have z1 : w2.cell? ⟨w.heap.size, 1, none⟩ = some (.int .i64 0) := RZ.out.cell 1
            have zf0 := RZ.out.frozen 0
            have zf1 := RZ.out.frozen 1
            go_wp2_with fail
            have HE := Lib.hid ((RZ.out.set 0 (.int .i64 0)).set 1 (.int .i64 0))
            have hl := HE.out.load Tryd.underlying25 rfl (by kernel_rfl)
            refine bodyPost_ret (v := .tuple #[.agg #[.int .i64 0, .int .i64 0], .bool false]) ?_ rfl ⟨by rw [HR.out], HE.out.1⟩
            rw [results_cell_tmp rfl]
            simp [asAddr, Result.andThen, hl]
          · have hwd := wd_good hm hm1 hmt hr
            obtain ⟨n0, n1⟩ := hgtt.rdN_bd (t.extract 0 m)
            rw [hr] at hR
            generalize rdN (t.extract 0 m) = n at *
            have HRd := Lib.hid hR
            clear hR hr hm h2
            go_wp2_with fail
            refine (HRd.out _).mono ?_
            rintro e w2 ⟨rfl, j, rfl⟩
            have RZ := Lib.hid (RZ.out.drewN j)
            have RV := Lib.hid (RV.out.drewN j)
            have hct : (wr.drewN j).cell? ⟨g, k, none⟩ = some (.string t) := hct
            have HC := Lib.hid (show ∀ (k : Nat) (t : ByteArray), xs[k]? = some t → (wr.drewN j).cell? ⟨g, k, none⟩ = some (.string t) from HC.out)
            generalize wr.drewN j = w2 at *
            have v0 : w2.cell? ⟨w.heap.size + 1, 0, none⟩ = some (.int .i64 x) := RV.out.cell 0
            have v1 : w2.cell? ⟨w.heap.size + 1, 1, none⟩ = some (.int .i64 y) := RV.out.cell 1
            have vf0 := RV.out.frozen 0
            have vf1 := RV.out.frozen 1
            by_cases h78 : t[m] = 78
            · have l78 : ((t[m].toNat : Int) == 78) = true := by rw [h78]; rfl
              have HW := Lib.hid (show fw (xs.drop (k + 1)) (x) (n) = FF s xs by rw [← hF, hdrop, fw_one hwd]; rw [h78, ap_78])
              clear hF hdrop hwd h78
              have SV := Lib.hid (RV.out.set 1 (.int .i64 (n)))
              have SZ := Lib.hid (RZ.out.other (b' := w.heap.size + 1) (Nat.le_succ _) (by omega) 1 (.int .i64 (n)))
              go_wp2_with fail
              go_roundw
              case rel => exact ⟨k + 1, _, _, next_eq HL.out HXL.out, by have := HL.out; omega, fun _ => HW.out, fun h => Bool.noConfusion h, SZ.out, SV.out, (fun k t h => (World.cell?_setCell_far _ ⟨w.heap.size + 1, 1, none⟩ ⟨g, k, none⟩ _ (by show w.heap.size + 1 ≠ g; have := HG.out; omega)).trans (HC.out k t h))⟩
              case measure => exact meas HL.out HXL.out
            · by_cases h83 : t[m] = 83
              · have l78 : ((t[m].toNat : Int) == 78) = false := ne_byte (d := 78) h78
                have l83 : ((t[m].toNat : Int) == 83) = true := by rw [h83]; rfl
                have HW := Lib.hid (show fw (xs.drop (k + 1)) (x) (-n) = FF s xs by rw [← hF, hdrop, fw_one hwd]; rw [h83, ap_83])
                clear hF hdrop hwd h78 h83
                have SV := Lib.hid (RV.out.set 1 (.int .i64 (-n)))
                have SZ := Lib.hid (RZ.out.other (b' := w.heap.size + 1) (Nat.le_succ _) (by omega) 1 (.int .i64 (-n)))
                go_wp2_with fail
                go_roundw
                case rel => exact ⟨k + 1, _, _, next_eq HL.out HXL.out, by have := HL.out; omega, fun _ => HW.out, fun h => Bool.noConfusion h, SZ.out, SV.out, (fun k t h => (World.cell?_setCell_far _ ⟨w.heap.size + 1, 1, none⟩ ⟨g, k, none⟩ _ (by show w.heap.size + 1 ≠ g; have := HG.out; omega)).trans (HC.out k t h))⟩
                case measure => exact meas HL.out HXL.out
              · by_cases h69 : t[m] = 69
                · have l78 : ((t[m].toNat : Int) == 78) = false := ne_byte (d := 78) h78
                  have l83 : ((t[m].toNat : Int) == 83) = false := ne_byte (d := 83) h83
                  have l69 : ((t[m].toNat : Int) == 69) = true := by rw [h69]; rfl
                  have HW := Lib.hid (show fw (xs.drop (k + 1)) (n) (y) = FF s xs by rw [← hF, hdrop, fw_one hwd]; rw [h69, ap_69])
                  clear hF hdrop hwd h78 h83 h69
                  have SV := Lib.hid (RV.out.set 0 (.int .i64 (n)))
                  have SZ := Lib.hid (RZ.out.other (b' := w.heap.size + 1) (Nat.le_succ _) (by omega) 0 (.int .i64 (n)))
                  go_wp2_with fail
                  go_roundw
                  case rel => exact ⟨k + 1, _, _, next_eq HL.out HXL.out, by have := HL.out; omega, fun _ => HW.out, fun h => Bool.noConfusion h, SZ.out, SV.out, (fun k t h => (World.cell?_setCell_far _ ⟨w.heap.size + 1, 0, none⟩ ⟨g, k, none⟩ _ (by show w.heap.size + 1 ≠ g; have := HG.out; omega)).trans (HC.out k t h))⟩
                  case measure => exact meas HL.out HXL.out
                · by_cases h87 : t[m] = 87
                  · have l78 : ((t[m].toNat : Int) == 78) = false := ne_byte (d := 78) h78
                    have l83 : ((t[m].toNat : Int) == 83) = false := ne_byte (d := 83) h83
                    have l69 : ((t[m].toNat : Int) == 69) = false := ne_byte (d := 69) h69
                    have l87 : ((t[m].toNat : Int) == 87) = true := by rw [h87]; rfl
                    have HW := Lib.hid (show fw (xs.drop (k + 1)) (-n) (y) = FF s xs by rw [← hF, hdrop, fw_one hwd]; rw [h87, ap_87])
                    clear hF hdrop hwd h78 h83 h69 h87
                    have SV := Lib.hid (RV.out.set 0 (.int .i64 (-n)))
                    have SZ := Lib.hid (RZ.out.other (b' := w.heap.size + 1) (Nat.le_succ _) (by omega) 0 (.int .i64 (-n)))
                    go_wp2_with fail
                    go_roundw
                    case rel => exact ⟨k + 1, _, _, next_eq HL.out HXL.out, by have := HL.out; omega, fun _ => HW.out, fun h => Bool.noConfusion h, SZ.out, SV.out, (fun k t h => (World.cell?_setCell_far _ ⟨w.heap.size + 1, 0, none⟩ ⟨g, k, none⟩ _ (by show w.heap.size + 1 ≠ g; have := HG.out; omega)).trans (HC.out k t h))⟩
                    case measure => exact meas HL.out HXL.out
                  · have l78 : ((t[m].toNat : Int) == 78) = false := ne_byte (d := 78) h78
                    have l83 : ((t[m].toNat : Int) == 83) = false := ne_byte (d := 83) h83
                    have l69 : ((t[m].toNat : Int) == 69) = false := ne_byte (d := 69) h69
                    have l87 : ((t[m].toNat : Int) == 87) = false := ne_byte (d := 87) h87
                    have HW := Lib.hid (show fw (xs.drop (k + 1)) (x) (y) = FF s xs by rw [← hF, hdrop, fw_one hwd]; rw [ap_none h78 h83 h69 h87])
                    clear hF hdrop hwd h78 h83 h69 h87
                    have SV := RV
                    have SZ := RZ
                    go_wp2_with fail
                    go_roundw
                    case rel => exact ⟨k + 1, _, _, next_eq HL.out HXL.out, by have := HL.out; omega, fun _ => HW.out, fun h => Bool.noConfusion h, SZ.out, SV.out, HC.out⟩
                    case measure => exact meas HL.out HXL.out
      · obtain rfl : k = xs.length := by omega
        have hF : FF s xs = some (x, y) := by rw [← hF, List.drop_of_length_le (Nat.le_refl _)]; rfl
        clear hcond1 hcond2
        have G8 := fun w => vels.good8 x y w
        have T8 := fun h w => text8 x y h w
        have HO := Lib.hid (fun h => pv_other hpc hF h)
        have HGo := Lib.hid (fun h1 h2 => pv_good (s := s) (x := x) (y := y) h1 h2)
        cases hv : vB x y
        · have HR := Lib.hid (HN.out (HO.out (Or.inl hv)))
          rw [hv] at G8
          have G := Lib.hid G8
          clear G8 T8 hv HO HGo hF
          have v0 : wr.cell? ⟨w.heap.size + 1, 0, none⟩ = some (.int .i64 x) := RV.out.cell 0
          have v1 : wr.cell? ⟨w.heap.size + 1, 1, none⟩ = some (.int .i64 y) := RV.out.cell 1
          go_wp2_with fail
          refine (G.out _).mono ?_
          rintro e wf ⟨rfl, hbf⟩
          have RZ := Lib.hid (RZ.out.old hbf)
          clear hbf RV v0 v1
          have z0 : wf.cell? ⟨w.heap.size, 0, none⟩ = some (.int .i64 0) := RZ.out.cell 0
          have z1 : wf.cell? ⟨w.heap.size, 1, none⟩ = some (.int .i64 0) := RZ.out.cell 1
          have zf0 := RZ.out.frozen 0
          have zf1 := RZ.out.frozen 1
          go_wp2_with fail
          have HE := Lib.hid ((RZ.out.set 0 (.int .i64 0)).set 1 (.int .i64 0))
          have hl := HE.out.load Tryd.underlying25 rfl (by kernel_rfl)
          refine bodyPost_ret (v := .tuple #[.agg #[.int .i64 0, .int .i64 0], .bool false]) ?_ rfl ⟨by rw [HR.out], HE.out.1⟩
          rw [results_cell_tmp rfl]
          simp [asAddr, Result.andThen, hl]
        · have T := Lib.hid (fun w => T8 hv w)
          rw [hv] at G8
          have G := Lib.hid G8
          have HO2 := Lib.hid (fun h => HO.out (Or.inr h))
          have HG2 := Lib.hid (fun h => HGo.out hv h)
          clear G8 T8 hv HO HGo hF
          generalize vt x y = tt at *
          have v0 : wr.cell? ⟨w.heap.size + 1, 0, none⟩ = some (.int .i64 x) := RV.out.cell 0
          have v1 : wr.cell? ⟨w.heap.size + 1, 1, none⟩ = some (.int .i64 y) := RV.out.cell 1
          go_wp2_with fail
          refine (G.out _).mono ?_
          rintro e wf ⟨rfl, hbf⟩
          have RZ := Lib.hid (RZ.out.old hbf)
          have RV := Lib.hid (RV.out.old hbf)
          clear hbf v0 v1
          have v0 : wf.cell? ⟨w.heap.size + 1, 0, none⟩ = some (.int .i64 x) := RV.out.cell 0
          have v1 : wf.cell? ⟨w.heap.size + 1, 1, none⟩ = some (.int .i64 y) := RV.out.cell 1
          go_wp2_with fail
          refine (T.out _).mono ?_
          rintro e wg ⟨rfl, hbg⟩
          have RZ := Lib.hid (RZ.out.old hbg)
          have RV := Lib.hid (RV.out.old hbg)
          clear hbg v0 v1
          have v0 : wg.cell? ⟨w.heap.size + 1, 0, none⟩ = some (.int .i64 x) := RV.out.cell 0
          have v1 : wg.cell? ⟨w.heap.size + 1, 1, none⟩ = some (.int .i64 y) := RV.out.cell 1
          have z0 : wg.cell? ⟨w.heap.size, 0, none⟩ = some (.int .i64 0) := RZ.out.cell 0
          have z1 : wg.cell? ⟨w.heap.size, 1, none⟩ = some (.int .i64 0) := RZ.out.cell 1
          have zf0 := RZ.out.frozen 0
          have zf1 := RZ.out.frozen 1
          cases hc : (tt.toList == s.toList)
          · have HR := Lib.hid (HN.out (HO2.out hc))
            go_wp2_with fail
            have HE := Lib.hid ((RZ.out.set 0 (.int .i64 0)).set 1 (.int .i64 0))
            have hl := HE.out.load Tryd.underlying25 rfl (by kernel_rfl)
            refine bodyPost_ret (v := .tuple #[.agg #[.int .i64 0, .int .i64 0], .bool false]) ?_ rfl ⟨by rw [HR.out], HE.out.1⟩
            rw [results_cell_tmp rfl]
            simp [asAddr, Result.andThen, hl]
          · have HR := Lib.hid (by have h3 := HG2.out hc; have h4 := HY.out h3.1; rw [h3.2.1, h3.2.2] at h4; exact h4)
            go_wp2_with fail
            have HE := Lib.hid ((RZ.out.set 0 (.int .i64 x)).set 1 (.int .i64 y))
            have hl := HE.out.load Tryd.underlying25 rfl (by kernel_rfl)
            refine bodyPost_ret (v := .tuple #[.agg #[.int .i64 x, .int .i64 y], .bool true]) ?_ rfl ⟨by rw [HR], HE.out.1⟩
            rw [results_cell_tmp rfl]
            simp [asAddr, Result.andThen, hl]
end Go.Proofs.YtdeghpihcddlgaaDoor.velr
