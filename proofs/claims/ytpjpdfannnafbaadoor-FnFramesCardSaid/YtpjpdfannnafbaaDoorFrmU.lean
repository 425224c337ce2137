/- spec's FrameText, l5Index, l5Parse, ParseFrameText. -/
import Derived.Test.YtpjpdfannnafbaaDoorFrmP
import Derived.Test.YtpjpdfannnafbaaDoorHexS
import Derived.Test.YtpjpdfannnafbaaDoorAt3
import Derived.Deep.RegionHeld3
import Derived.Deep.CutRange
namespace Go.Proofs.YtpjpdfannnafbaaDoor.frmu
open Go.RowKit Go.Proofs.YtpjpdfannnafbaaDoor.bin Go.Proofs.YtpjpdfannnafbaaDoor.good_ Go.Proofs.YtpjpdfannnafbaaDoor.frm Go.Proofs.YtpjpdfannnafbaaDoor.frms Go.Proofs.YtpjpdfannnafbaaDoor.frmt Go.Proofs.YtpjpdfannnafbaaDoor.frmp Go.Proofs.YtpjpdfannnafbaaDoor.split_ Go.Proofs.YtpjpdfannnafbaaDoor.at3

def ftT (K A D : Int) : ByteArray := if good K A D then textT K.toNat A.toNat D.toNat else ⟨#[]⟩
theorem ft_no {K A D : Int} (h : good K A D = false) : Ending.returned (.tuple #[.string ⟨#[]⟩, .bool false]) = .returned (.tuple #[.string (ftT K A D), .bool (good K A D)]) := by unfold ftT; rw [h]; rfl
theorem ft_yes {K A D : Nat} (h : good K A D = true) : Ending.returned (.tuple #[.string (textT K A D), .bool true]) = .returned (.tuple #[.string (ftT K A D), .bool (good K A D)]) := by unfold ftT; rw [h]; simp
theorem frameText (K A D : Int) (w : World) :
    Calls Tryd.prog 22 #[.agg #[.int .i64 K, .int .i64 A, .int .i64 D]] w fun e w' => e = .returned (.tuple #[.string (ftT K A D), .bool (good K A D)]) ∧ Below w.heap.size w w' := by
  have hg := fun w => good5 K A D w
  cases hb : good K A D
  · have HN := Lib.hid (ft_no hb)
    rw [hb] at hg HN
    have HG := Lib.hid hg
    clear hg hb
    go_enter Tryd.func22, Tryd.ntmps22
    go_wp2_with fail
    refine (HG.out _).mono ?_
    rintro e w1 ⟨rfl, hb⟩
    have hb := ((Below.refl _ _).alloc (Nat.le_refl _) _).trans (hb.mono (by simp))
    go_wp2_with fail
    go_ret2
    exact ⟨HN.out, hb⟩
  · obtain ⟨k, a, d, rfl, rfl, rfl, h1, h2, h3, h4, h5⟩ := good_nat hb
    have HY := Lib.hid (ft_yes hb)
    have HX := Lib.hid (fun w => text5 k a d w (by omega) h4 h5)
    rw [hb] at hg HY
    have HG := Lib.hid hg
    clear hg hb h1 h2 h3 h4 h5
    generalize textT k a d = X at *
    go_enter Tryd.func22, Tryd.ntmps22
    go_wp2_with fail
    refine (HG.out _).mono ?_
    rintro e w1 ⟨rfl, hb⟩
    have hc : ∀ o, w1.cell? ⟨w.heap.size, o, none⟩ = (w.alloc (.cells #[.int .i64 k, .int .i64 a, .int .i64 d] 25)).cell? ⟨w.heap.size, o, none⟩ := fun o => hb.cell (p := ⟨w.heap.size, o, none⟩) (by simp)
    have hb := ((Below.refl _ _).alloc (Nat.le_refl _) _).trans (hb.mono (by simp))
    go_wp2_with fail
    refine (HX.out _).mono ?_
    rintro e w2 ⟨rfl, hb2⟩
    have hb := hb.trans (hb2.mono hb.size)
    go_wp2_with fail
    go_ret2
    exact ⟨HY.out, hb⟩

theorem str_eq_no {x y : ByteArray} (h : x ≠ y) : (x.toList == y.toList) = false := by
  rw [beq_eq_false_iff_ne, Lib.toList_data, Lib.toList_data]
  exact fun e => h (aid.str_ext e)
theorem str_eq_yes (x : ByteArray) : (x.toList == x.toList) = true := by simp
theorem str_ne_no {x y : ByteArray} (h : x ≠ y) : (!(x.toList == y.toList)) = true := by rw [str_eq_no h]; rfl
theorem str_ne_yes (x : ByteArray) : (!(x.toList == x.toList)) = false := by simp

/-- The words lie in block B. -/
def Words (W : World) (B : Nat) : Prop := ∀ k, k < 5 → W.cell? ⟨B, k, none⟩ = some (.string (wd k))
theorem words_new (W : World) : Words (W.alloc (.cells wordsC 9)) W.heap.size := fun _ h => words_cell W h
theorem Words.old {W W' : World} {B : Nat} (h : Words W B) (hb : Below W.heap.size W W') : Words W' B := fun k hk => (hb.cell (p := ⟨B, k, none⟩) (World.block_lt_of_cell? _ _ (h k hk))).trans (h k hk)
theorem Words.drew {W : World} {B : Nat} (h : Words W B) : Words W.drew B := h

theorem index5 (B : Nat) (x : ByteArray) (w : World) (h : Words w B) :
    Calls Tryd.prog 68 #[.slice (some ⟨B, 0, none⟩) 5 5, .string x] w fun e w' => e = .returned (.int .i64 (ix x : Nat)) ∧ w' = w := by
  have H := Lib.hid h
  clear h
  go_enter Tryd.func68, Tryd.ntmps68
  go_wp2_with fail
  go_loop [5] (fun i => ∃ k : Nat, 1 ≤ k ∧ k ≤ 5 ∧ i = .int .i64 k ∧ ∀ j, 1 ≤ j → j < k → wd j ≠ x) (fun i => 5 - (intOf i).toNat)
  case atStart => exact ⟨1, by omega, by omega, rfl, fun j h1 h2 => absurd h2 (by omega)⟩
  case round =>
    obtain ⟨k, hk1, hk, rfl, hno⟩ := hrel
    have HO := Lib.hid hno
    clear hno
    by_cases hlt : k < 5
    · have hc := H.out k hlt
      have hlt2 : (k : Int) < 5 := by omega
      by_cases he : wd k = x
      · rw [he] at hc
        have HR := Lib.hid (show Ending.returned (.int .i64 (k : Int)) = .returned (.int .i64 (ix x : Nat)) by rw [← he, ix_wd hk1 hlt])
        have hs := str_eq_yes x
        clear he
        go_wp2_with fail
        go_ret
        exact ⟨HR.out, rfl⟩
      · have hs := str_eq_no he
        have HS := Lib.hid (show ∀ j, 1 ≤ j → j < k + 1 → wd j ≠ x from fun j h1 h2 => by
          by_cases hjk : j < k
          · exact HO.out j h1 hjk
          · obtain rfl : j = k := by omega
            exact he)
        clear he
        generalize wd k = y at *
        go_wp2_with fail
        go_round
        case rel => exact ⟨k + 1, by omega, by omega, by go_num, HS.out⟩
        case measure => simp [intOf]; omega
    · obtain rfl : k = 5 := by omega
      have HR := Lib.hid (show Ending.returned (.int .i64 0) = .returned (.int .i64 (ix x : Nat)) by rw [ix_no HO.out]; rfl)
      go_wp2_with fail
      go_ret
      exact ⟨HR.out, rfl⟩

theorem un_dec {x : ByteArray} (h : rdB 16 16 x = true) : dec 2 (bitsi.unhexT x).data.toList = dec 16 x.data.toList := by
  have hr := bitsi.rd_ok h
  have hv := dec_lt 16 _ hr.2
  rw [len_list] at hv
  unfold bitsi.unhexT
  rw [h, if_pos rfl]
  refine e_dec (4 * x.size) _ ?_
  rw [Nat.pow_mul]
  exact hv
/-- A frame at block b beside the words. -/
theorem leaf1 {w V : World} {B0 : Nat} (h : At3 w V B0 0 0 0) (k a d : Int) :
    At3 w ((V.alloc (.cells wordsC 9)).alloc (.cells #[.int .i64 k, .int .i64 a, .int .i64 d] 25)).drew (V.heap.size + 1) k a d ∧ At3 w ((V.alloc (.cells wordsC 9)).alloc (.cells #[.int .i64 k, .int .i64 a, .int .i64 d] 25)).drew B0 0 0 0 := by
  have h1 := h.old ((Below.refl V.heap.size V).alloc (Nat.le_refl _) (.cells wordsC 9))
  have h2 := h1.two k a d
  rw [World.size_alloc] at h2
  exact h2
theorem leaf2 {w V : World} {B0 : Nat} (h : At3 w V B0 0 0 0) (k a d : Int) :
    At3 w ((V.alloc (.cells #[.int .i64 k, .int .i64 a, .int .i64 d] 25)).alloc (.cells wordsC 9)).drew V.heap.size k a d ∧ At3 w ((V.alloc (.cells #[.int .i64 k, .int .i64 a, .int .i64 d] 25)).alloc (.cells wordsC 9)).drew B0 0 0 0 := by
  have h2 := h.two k a d
  have hb : Below (V.alloc (.cells #[.int .i64 k, .int .i64 a, .int .i64 d] 25)).drew.heap.size (V.alloc (.cells #[.int .i64 k, .int .i64 a, .int .i64 d] 25)).drew ((V.alloc (.cells #[.int .i64 k, .int .i64 a, .int .i64 d] 25)).alloc (.cells wordsC 9)).drew :=
    (Below.refl _ _).alloc (Nat.le_refl _) (.cells wordsC 9)
  exact ⟨h2.1.old hb, h2.2.old hb⟩
theorem three {xs : List ByteArray} (h : xs.length = 3) : ∃ a b c, xs = [a, b, c] := by
  match xs, h with
  | [a, b, c], _ => exact ⟨a, b, c, rfl⟩
theorem pieces_size (b : UInt8) : ∀ (l cur x : List UInt8), x ∈ pieces b l cur → x.length ≤ cur.length + l.length
  | [], cur, x, h => by
    simp [pieces] at h
    subst h
    omega
  | c :: l, cur, x, h => by
    rw [pieces] at h
    by_cases e : c = b
    · rw [if_pos e] at h
      rcases List.mem_cons.1 h with rfl | h
      · simp only [List.length_cons]; omega
      · have := pieces_size b l [] x h
        simp only [List.length_nil, List.length_cons] at *
        omega
    · rw [if_neg e] at h
      have := pieces_size b l (cur ++ [c]) x h
      simp only [List.length_append, List.length_cons, List.length_nil] at *
      omega
theorem xs_size {s : ByteArray} {xs : List ByteArray} (h : xs.map (·.data.toList) = pieces 32 s.data.toList []) {x : ByteArray} (hx : x ∈ xs) : x.size ≤ s.size := by
  have hm : x.data.toList ∈ pieces 32 s.data.toList [] := by rw [← h]; exact List.mem_map.2 ⟨x, hx, rfl⟩
  have := pieces_size 32 _ _ _ hm
  rw [len_list, len_list] at this
  simpa using this
theorem words_of {s x0 x1 x2 : ByteArray} (h : [x0, x1, x2].map (·.data.toList) = pieces 32 s.data.toList []) : x0 = word s 0 ∧ x1 = word s 1 ∧ x2 = word s 2 := by
  unfold word
  rw [← h]
  exact ⟨aid.str_ext rfl, aid.str_ext rfl, aid.str_ext rfl⟩

set_option maxRecDepth 100000 in
set_option maxHeartbeats 8000000 in
theorem parse5 (s : ByteArray) (w : World) (hs : s.size ≤ 1048576) :
    Calls Tryd.prog 42 #[.string s] w fun e w' => e = .returned (.tuple #[fv (prK s) (prA s) (prD s), .bool (prB s)]) ∧ Below w.heap.size w w' := by
  have HW := Lib.hid (new3 w 0 0 0)
  have HS := Lib.hid (fun w => l1Split s 32 w hs)
  have HPN := Lib.hid (fun h => @pr_no s h)
  have HPY := Lib.hid (fun h => @pr_yes s h)
  have hsi : (s.size : Int) ≤ 1048576 := by omega
  go_enter Tryd.func42, Tryd.ntmps42
  go_wp2_with fail
  generalize w.alloc (.cells #[.int .i64 0, .int .i64 0, .int .i64 0] 25) = W at *
  refine (HS.out _).mono ?_
  rintro e w1 ⟨v, xs, rfl, hown, hb1, hpc⟩
  have HB := Lib.hid (HW.out.old hb1)
  clear HW HS hb1
  have hsl : ∃ A c, v = .slice A xs.length c := by
    rcases hown.2 with ⟨rfl, h0⟩ | ⟨g, cap, cur, rfl, _⟩
    · exact ⟨_, _, by rw [h0]⟩
    · exact ⟨_, _, rfl⟩
  obtain ⟨A, c, rfl⟩ := hsl
  have hlen : xs.length = (pieces 32 s.data.toList []).length := by rw [← hpc, List.length_map]
  by_cases h30 : s.size ≤ 30
  · have d1 : decide ((30 : Int) < (s.size : Int)) = false := decide_eq_false (by omega)
    by_cases h3 : xs.length = 3
    · obtain ⟨x0, x1, x2, rfl⟩ := three h3
      obtain ⟨q0, q1, q2⟩ := words_of hpc
      have hform : form s = ((rdB 16 16 x1 && rdB 16 16 x2) && (decide (x1.size = 4) && decide (x2.size = 6))) := by
        unfold form
        rw [decide_eq_true h30, decide_eq_true (show (pieces 32 s.data.toList []).length = 3 by rw [← hlen]; rfl), ← q1, ← q2]
        rfl
      have hA : ∃ g, A = some ⟨g, 0, none⟩ := by
        rcases hown.2 with ⟨_, h0⟩ | ⟨g, _, _, hv, _⟩
        · simp at h0
        · injection hv with hA
          exact ⟨g, hA⟩
      obtain ⟨g, rfl⟩ := hA
      have k0 := hown.cells (g := g) rfl 0 (.string x0) rfl
      have k1 := hown.cells (g := g) rfl 1 (.string x1) rfl
      have k2 := hown.cells (g := g) rfl 2 (.string x2) rfl
      rw [Addr.add_lit] at k0 k1 k2
      have hvK : vK s = ix x0 := by unfold vK; rw [← q0]
      have hvA : vA s = dec 16 x1.data.toList := by unfold vA; rw [← q1]
      have hvD : vD s = dec 16 x2.data.toList := by unfold vD; rw [← q2]
      have hx1 : x1.size ≤ maxLen := by have := xs_size hpc (x := x1) (by simp); unfold maxLen; omega
      have hx2 : x2.size ≤ maxLen := by have := xs_size hpc (x := x2) (by simp); unfold maxLen; omega
      have hc1 := fun w => hexs.l2FromHex x1 w hx1
      have hc2 := fun w => hexs.l2FromHex x2 w hx2
      clear hown hpc q0 q1 q2 hlen h3 hx1 hx2
      have hpr : form s = false → prB s = false := fun h => by unfold prB; rw [h]; rfl
      cases r1 : rdB 16 16 x1
      · have HN := Lib.hid (HPN.out (hpr (by rw [hform, r1]; rfl)))
        rw [r1] at hc1
        have C1 := Lib.hid hc1
        have C2 := Lib.hid hc2
        clear hc1 hc2 hform hvK hvA hvD hpr r1 h30
        generalize bitsi.unhexT x1 = T1 at *
        generalize bitsi.unhexT x2 = T2 at *
        generalize rdB 16 16 x2 = r2 at *
        go_wp2_with fail
        refine (C1.out _).mono ?_
        rintro e w2 ⟨rfl, hb2⟩
        have HB2 := Lib.hid (HB.out.old hb2)
        have k0 := (hb2.cell (p := ⟨g, 0, none⟩) (World.block_lt_of_cell? _ _ k0)).trans k0
        have k2 := (hb2.cell (p := ⟨g, 2, none⟩) (World.block_lt_of_cell? _ _ k2)).trans k2
        clear hb2
        go_wp2_with fail
        refine (C2.out _).mono ?_
        rintro e w3 ⟨rfl, hb3⟩
        have HB3 := Lib.hid (HB2.out.old hb3)
        have k0 := (hb3.cell (p := ⟨g, 0, none⟩) (World.block_lt_of_cell? _ _ k0)).trans k0
        clear hb3
        obtain ⟨b0, b1, b2⟩ := (HB3.out).cells
        obtain ⟨c0, c1, c2⟩ := (HB3.out).frozen
        go_wp2_with fail
        have HE := (HB3.out).set 0 0 0
        have hl := HE.load
        refine bodyPost_ret (v := .tuple #[fv 0 0 0, .bool false]) ?_ rfl ⟨by rw [HN.out], HE.1⟩
        rw [results_cell_tmp rfl]
        simp [asAddr, Result.andThen, hl, fv]
      · cases r2 : rdB 16 16 x2
        · have HN := Lib.hid (HPN.out (hpr (by rw [hform, r1, r2]; rfl)))
          rw [r1] at hc1
          rw [r2] at hc2
          have C1 := Lib.hid hc1
          have C2 := Lib.hid hc2
          clear hc1 hc2 hform hvK hvA hvD hpr r1 r2 h30
          generalize bitsi.unhexT x1 = T1 at *
          generalize bitsi.unhexT x2 = T2 at *
          go_wp2_with fail
          refine (C1.out _).mono ?_
          rintro e w2 ⟨rfl, hb2⟩
          have HB2 := Lib.hid (HB.out.old hb2)
          have k0 := (hb2.cell (p := ⟨g, 0, none⟩) (World.block_lt_of_cell? _ _ k0)).trans k0
          have k2 := (hb2.cell (p := ⟨g, 2, none⟩) (World.block_lt_of_cell? _ _ k2)).trans k2
          clear hb2
          go_wp2_with fail
          refine (C2.out _).mono ?_
          rintro e w3 ⟨rfl, hb3⟩
          have HB3 := Lib.hid (HB2.out.old hb3)
          have k0 := (hb3.cell (p := ⟨g, 0, none⟩) (World.block_lt_of_cell? _ _ k0)).trans k0
          clear hb3
          obtain ⟨b0, b1, b2⟩ := (HB3.out).cells
          obtain ⟨c0, c1, c2⟩ := (HB3.out).frozen
          go_wp2_with fail
          have HE := (HB3.out).set 0 0 0
          have hl := HE.load
          refine bodyPost_ret (v := .tuple #[fv 0 0 0, .bool false]) ?_ rfl ⟨by rw [HN.out], HE.1⟩
          rw [results_cell_tmp rfl]
          simp [asAddr, Result.andThen, hl, fv]
        · have z1 : (bitsi.unhexT x1).size = 4 * x1.size := by unfold bitsi.unhexT; rw [r1]; exact e_size 2 (4 * x1.size) _
          have z2 : (bitsi.unhexT x2).size = 4 * x2.size := by unfold bitsi.unhexT; rw [r2]; exact e_size 2 (4 * x2.size) _
          have o1 : ok 2 (bitsi.unhexT x1).data.toList = true := by unfold bitsi.unhexT; rw [r1]; exact e_ok (4 * x1.size) _
          have o2 : ok 2 (bitsi.unhexT x2).data.toList = true := by unfold bitsi.unhexT; rw [r2]; exact e_ok (4 * x2.size) _
          have u1 := un_dec r1
          have u2 := un_dec r2
          rw [r1] at hc1
          rw [r2] at hc2
          have C1 := Lib.hid hc1
          have C2 := Lib.hid hc2
          rw [r1, r2] at hform
          by_cases s4 : x1.size = 4
          · by_cases s6 : x2.size = 6
            · have e1 : (((bitsi.unhexT x1).size : Int) != 16) = false := by rw [z1, s4]; rfl
              have e2 : (((bitsi.unhexT x2).size : Int) != 24) = false := by rw [z2, s6]; rfl
              have N1 := Lib.hid (fun w => number (bitsi.unhexT x1) w (by omega) o1)
              have N2 := Lib.hid (fun w => number (bitsi.unhexT x2) w (by omega) o2)
              rw [u1] at N1
              rw [u2] at N2
              have hprB : prB s = (good (ix x0) (dec 16 x1.data.toList) (dec 16 x2.data.toList) && decide (textT (ix x0) (dec 16 x1.data.toList) (dec 16 x2.data.toList) = s)) := by
                unfold prB
                rw [hform, decide_eq_true s4, decide_eq_true s6, hvK, hvA, hvD]
                rfl
              rw [hvK, hvA, hvD] at HPY
              have hixle := ix_le x0
              have HXL := Lib.hid hixle
              have IX := Lib.hid (fun B w h => index5 B x0 w h)
              clear hc1 hc2 hform hvK hvA hvD hpr r1 r2 z1 z2 o1 o2 u1 u2 s4 s6 h30 hixle
              generalize bitsi.unhexT x1 = T1 at *
              generalize bitsi.unhexT x2 = T2 at *
              generalize ix x0 = k at *
              generalize dec 16 x1.data.toList = a at *
              generalize dec 16 x2.data.toList = d at *
              go_wp2_with fail
              refine (C1.out _).mono ?_
              rintro e w2 ⟨rfl, hb2⟩
              have HB2 := Lib.hid (HB.out.old hb2)
              have k0 := (hb2.cell (p := ⟨g, 0, none⟩) (World.block_lt_of_cell? _ _ k0)).trans k0
              have k2 := (hb2.cell (p := ⟨g, 2, none⟩) (World.block_lt_of_cell? _ _ k2)).trans k2
              clear hb2
              go_wp2_with fail
              refine (C2.out _).mono ?_
              rintro e w3 ⟨rfl, hb3⟩
              have HB3 := Lib.hid (HB2.out.old hb3)
              have k0 := (hb3.cell (p := ⟨g, 0, none⟩) (World.block_lt_of_cell? _ _ k0)).trans k0
              clear hb3
              go_upto_region 8 with fail
              have wd1 := (words_new w3).drew
              have wd2 := (words_new (w3.alloc (.cells #[.int .i64 0, .int .i64 0, .int .i64 0] 25))).drew
              rw [World.size_alloc] at wd2
              have wd3 := ((words_new w3).old ((Below.refl _ _).alloc (Nat.le_refl _) (.cells #[.int .i64 0, .int .i64 0, .int .i64 0] 25))).drew
              have WD1 := Lib.hid wd1
              have WD2 := Lib.hid wd2
              have WD3 := Lib.hid wd3
              have N1' := Lib.hid (fun w => (N1.out w).mono fun _ _ h => And.intro h.1 h.2.symm)
              have N2' := Lib.hid (fun w => (N2.out w).mono fun _ _ h => And.intro h.1 h.2.symm)
              have kd := World.block_lt_of_cell? _ _ k0
              clear wd1 wd2 wd3 N1 N2
              go_cut [9] from 52 to 61 (fun p wx => ∃ b, p = .pointer (some ⟨b, 0, none⟩) ∧ At3 w wx b k a d ∧ At3 w wx w.heap.size 0 0 0)
              case first =>
                go_region_held3 (fun w' => w'.cell? ⟨g, 0, none⟩ = some (.string x0)) (first | exact k0 | go_keep) (first
                  | (go_at_call 66; (with_reducible refine (words5 _).mono ?_); rintro e w' ⟨rfl, rfl⟩)
                  | (go_at_call 68; (with_reducible refine (IX.out _ _ (by first | exact WD1.out | exact WD2.out | exact WD3.out)).mono ?_); rintro e w' ⟨rfl, rfl⟩)
                  | (go_at_call 69; (with_reducible refine (N1'.out _).mono ?_); rintro e w' ⟨rfl, rfl⟩)
                  | (go_at_call 69; (with_reducible refine (N2'.out _).mono ?_); rintro e w' ⟨rfl, rfl⟩))
                all_goals (go_wp2_with fail; go_meet; first | exact ⟨_, rfl, leaf1 HB3.out k a d⟩ | exact ⟨_, rfl, leaf2 HB3.out k a d⟩)
              case rest =>
                obtain ⟨b, rfl, hA, hB⟩ := hcut
                have HA := Lib.hid hA
                have HB' := Lib.hid hB
                obtain ⟨a0, a1, a2⟩ := hA.cells
                clear hA hB HB3 WD1 WD2 WD3 k0 kd
                have hg := fun w => good5 k a d w
                cases hgd : good k a d
                · have HN := Lib.hid (HPN.out (by rw [hprB, hgd]; rfl))
                  rw [hgd] at hg
                  have HG := Lib.hid hg
                  clear hg hgd hprB
                  go_wp2_with fail
                  refine (HG.out _).mono ?_
                  rintro e w4 ⟨rfl, hb4⟩
                  have HB4 := Lib.hid (HB'.out.old hb4)
                  clear a0 a1 a2
                  obtain ⟨b0, b1, b2⟩ := (HB4.out).cells
                  obtain ⟨c0, c1, c2⟩ := (HB4.out).frozen
                  go_wp2_with fail
                  have HE := (HB4.out).set 0 0 0
                  have hl := HE.load
                  refine bodyPost_ret (v := .tuple #[fv 0 0 0, .bool false]) ?_ rfl ⟨by rw [HN.out], HE.1⟩
                  rw [results_cell_tmp rfl]
                  simp [asAddr, Result.andThen, hl, fv]
                · have hgi := good_iff.1 hgd
                  have HT := Lib.hid (fun w => text5 k a d w (by omega) (by omega) (by omega))
                  rw [hgd] at hg
                  have HG := Lib.hid hg
                  by_cases hX : textT k a d = s
                  · have HY := Lib.hid (HPY.out (by rw [hprB, hgd, decide_eq_true hX]; rfl))
                    rw [hX] at HT
                    have hss := str_ne_yes s
                    clear hg hgd hprB hgi hX
                    go_wp2_with fail
                    refine (HG.out _).mono ?_
                    rintro e w4 ⟨rfl, hb4⟩
                    have HA4 := Lib.hid (HA.out.old hb4)
                    have HB4 := Lib.hid (HB'.out.old hb4)
                    clear a0 a1 a2
                    obtain ⟨a0, a1, a2⟩ := HA4.out.cells
                    go_wp2_with fail
                    refine (HT.out _).mono ?_
                    rintro e w5 ⟨rfl, hb5⟩
                    have HA5 := Lib.hid (HA4.out.old hb5)
                    have HB5 := Lib.hid (HB4.out.old hb5)
                    clear a0 a1 a2
                    obtain ⟨a0, a1, a2⟩ := HA5.out.cells
                    obtain ⟨b0, b1, b2⟩ := (HB5.out).cells
                    obtain ⟨c0, c1, c2⟩ := (HB5.out).frozen
                    go_wp2_with fail
                    have HE := (HB5.out).set k a d
                    have hl := HE.load
                    refine bodyPost_ret (v := .tuple #[fv k a d, .bool true]) ?_ rfl ⟨by rw [HY.out], HE.1⟩
                    rw [results_cell_tmp rfl]
                    simp [asAddr, Result.andThen, hl, fv]
                  · have HN := Lib.hid (HPN.out (by rw [hprB, hgd, decide_eq_false hX]; rfl))
                    have hss := str_ne_no hX
                    clear hg hgd hprB hgi hX
                    generalize textT k a d = X at *
                    go_wp2_with fail
                    refine (HG.out _).mono ?_
                    rintro e w4 ⟨rfl, hb4⟩
                    have HA4 := Lib.hid (HA.out.old hb4)
                    have HB4 := Lib.hid (HB'.out.old hb4)
                    clear a0 a1 a2
                    obtain ⟨a0, a1, a2⟩ := HA4.out.cells
                    go_wp2_with fail
                    refine (HT.out _).mono ?_
                    rintro e w5 ⟨rfl, hb5⟩
                    have HB5 := Lib.hid (HB4.out.old hb5)
                    clear a0 a1 a2
                    obtain ⟨b0, b1, b2⟩ := (HB5.out).cells
                    obtain ⟨c0, c1, c2⟩ := (HB5.out).frozen
                    go_wp2_with fail
                    have HE := (HB5.out).set 0 0 0
                    have hl := HE.load
                    refine bodyPost_ret (v := .tuple #[fv 0 0 0, .bool false]) ?_ rfl ⟨by rw [HN.out], HE.1⟩
                    rw [results_cell_tmp rfl]
                    simp [asAddr, Result.andThen, hl, fv]
            · have HN := Lib.hid (HPN.out (hpr (by rw [hform, decide_eq_false s6]; simp)))
              have e1 : (((bitsi.unhexT x1).size : Int) != 16) = false := by rw [z1, s4]; rfl
              have e2 : (((bitsi.unhexT x2).size : Int) != 24) = true := by rw [z2]; simp; omega
              clear hc1 hc2 hform hvK hvA hvD hpr r1 r2 z1 z2 o1 o2 u1 u2 s4 s6 h30
              generalize bitsi.unhexT x1 = T1 at *
              generalize bitsi.unhexT x2 = T2 at *
              go_wp2_with fail
              refine (C1.out _).mono ?_
              rintro e w2 ⟨rfl, hb2⟩
              have HB2 := Lib.hid (HB.out.old hb2)
              have k0 := (hb2.cell (p := ⟨g, 0, none⟩) (World.block_lt_of_cell? _ _ k0)).trans k0
              have k2 := (hb2.cell (p := ⟨g, 2, none⟩) (World.block_lt_of_cell? _ _ k2)).trans k2
              clear hb2
              go_wp2_with fail
              refine (C2.out _).mono ?_
              rintro e w3 ⟨rfl, hb3⟩
              have HB3 := Lib.hid (HB2.out.old hb3)
              have k0 := (hb3.cell (p := ⟨g, 0, none⟩) (World.block_lt_of_cell? _ _ k0)).trans k0
              clear hb3
              obtain ⟨b0, b1, b2⟩ := (HB3.out).cells
              obtain ⟨c0, c1, c2⟩ := (HB3.out).frozen
              go_wp2_with fail
              have HE := (HB3.out).set 0 0 0
              have hl := HE.load
              refine bodyPost_ret (v := .tuple #[fv 0 0 0, .bool false]) ?_ rfl ⟨by rw [HN.out], HE.1⟩
              rw [results_cell_tmp rfl]
              simp [asAddr, Result.andThen, hl, fv]
          · have HN := Lib.hid (HPN.out (hpr (by rw [hform, decide_eq_false s4]; simp)))
            have e1 : (((bitsi.unhexT x1).size : Int) != 16) = true := by rw [z1]; simp; omega
            clear hc1 hc2 hform hvK hvA hvD hpr r1 r2 z1 z2 o1 o2 u1 u2 s4 h30
            generalize bitsi.unhexT x1 = T1 at *
            generalize bitsi.unhexT x2 = T2 at *
            go_wp2_with fail
            refine (C1.out _).mono ?_
            rintro e w2 ⟨rfl, hb2⟩
            have HB2 := Lib.hid (HB.out.old hb2)
            have k0 := (hb2.cell (p := ⟨g, 0, none⟩) (World.block_lt_of_cell? _ _ k0)).trans k0
            have k2 := (hb2.cell (p := ⟨g, 2, none⟩) (World.block_lt_of_cell? _ _ k2)).trans k2
            clear hb2
            go_wp2_with fail
            refine (C2.out _).mono ?_
            rintro e w3 ⟨rfl, hb3⟩
            have HB3 := Lib.hid (HB2.out.old hb3)
            have k0 := (hb3.cell (p := ⟨g, 0, none⟩) (World.block_lt_of_cell? _ _ k0)).trans k0
            clear hb3
            obtain ⟨b0, b1, b2⟩ := (HB3.out).cells
            obtain ⟨c0, c1, c2⟩ := (HB3.out).frozen
            go_wp2_with fail
            have HE := (HB3.out).set 0 0 0
            have hl := HE.load
            refine bodyPost_ret (v := .tuple #[fv 0 0 0, .bool false]) ?_ rfl ⟨by rw [HN.out], HE.1⟩
            rw [results_cell_tmp rfl]
            simp [asAddr, Result.andThen, hl, fv]
    · have HN := Lib.hid (HPN.out (by unfold prB form; rw [decide_eq_false (show ¬ (pieces 32 s.data.toList []).length = 3 by rw [← hlen]; exact h3)]; simp))
      have d2 : ((xs.length : Int) != 3) = true := by simp; omega
      have hL := Lib.hid hlen
      clear h3 hlen hown hpc h30
      generalize xs.length = n at *
      obtain ⟨b0, b1, b2⟩ := HB.out.cells
      obtain ⟨c0, c1, c2⟩ := HB.out.frozen
      go_wp2_with fail
      have HE := (HB.out).set 0 0 0
      have hl := HE.load
      refine bodyPost_ret (v := .tuple #[fv 0 0 0, .bool false]) ?_ rfl ⟨by rw [HN.out], HE.1⟩
      rw [results_cell_tmp rfl]
      simp [asAddr, Result.andThen, hl, fv]
  · have HN := Lib.hid (HPN.out (by unfold prB form; rw [decide_eq_false h30]; rfl))
    have d1 : decide ((30 : Int) < (s.size : Int)) = true := decide_eq_true (by omega)
    clear hlen hown hpc h30
    obtain ⟨b0, b1, b2⟩ := HB.out.cells
    obtain ⟨c0, c1, c2⟩ := HB.out.frozen
    go_wp2_with fail
    have HE := (HB.out).set 0 0 0
    have hl := HE.load
    refine bodyPost_ret (v := .tuple #[fv 0 0 0, .bool false]) ?_ rfl ⟨by rw [HN.out], HE.1⟩
    rw [results_cell_tmp rfl]
    simp [asAddr, Result.andThen, hl, fv]

theorem parseFrameText (s : ByteArray) (w : World) (hs : s.size ≤ 1048576) :
    Calls Tryd.prog 21 #[.string s] w fun e w' => e = .returned (.tuple #[fv (prK s) (prA s) (prD s), .bool (prB s)]) ∧ Below w.heap.size w w' := by
  have HR := Lib.hid (show ∀ w, Calls Tryd.prog 42 #[.string s] w fun e w' => e = .returned (.tuple #[.agg #[.int .i64 (prK s), .int .i64 (prA s), .int .i64 (prD s)], .bool (prB s)]) ∧ Below w.heap.size w w' from fun w => parse5 s w hs)
  have HW := Lib.hid (new3 w 0 0 0)
  clear hs
  generalize prK s = k at *
  generalize prA s = a at *
  generalize prD s = d at *
  generalize prB s = b at *
  go_enter Tryd.func21, Tryd.ntmps21
  go_wp2_with fail
  generalize w.alloc (.cells #[.int .i64 0, .int .i64 0, .int .i64 0] 25) = W at *
  refine (HR.out _).mono ?_
  rintro e w2 ⟨rfl, hb2⟩
  have HB := Lib.hid (HW.out.old hb2)
  obtain ⟨b0, b1, b2⟩ := HB.out.cells
  obtain ⟨c0, c1, c2⟩ := HB.out.frozen
  go_wp2_with fail
  have HE := HB.out.set k a d
  have hl := HE.load
  refine bodyPost_ret (v := .tuple #[fv k a d, .bool b]) ?_ rfl ⟨rfl, HE.1⟩
  rw [results_cell_tmp rfl]
  simp [asAddr, Result.andThen, hl, fv]
end Go.Proofs.YtpjpdfannnafbaaDoor.frmu
