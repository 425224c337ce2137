/- impl's side of reading a velocity's text. -/
import Derived.Test.YtdeghpihcddlgaaDoorVelP
import Derived.Test.YtdeghpihcddlgaaDoorVelY
import Derived.Test.YtdeghpihcddlgaaDoorHgtT
import Derived.Test.YtdeghpihcddlgaaDoorShelf
import Derived.Lib.IndexLaws
import Derived.OwnWalk
import Derived.BigQuiet
import Derived.Deep.QuietTactic
namespace Go.Proofs.YtdeghpihcddlgaaDoor.velq
open Go.RowKit Go.Proofs.YtdeghpihcddlgaaDoor.vel Go.Proofs.YtdeghpihcddlgaaDoor.ats Go.Proofs.YtdeghpihcddlgaaDoor.num Go.Proofs.YtdeghpihcddlgaaDoor.read Go.Proofs.YtdeghpihcddlgaaDoor.velw Go.Proofs.YtdeghpihcddlgaaDoor.vely Go.Proofs.YtdeghpihcddlgaaDoor.velp

def cR (s : ByteArray) : ByteArray := if 0 ≤ ci s then s.extract ((ci s).toNat + 1) s.size else ⟨#[]⟩
theorem three {a b a' b' : ByteArray} {f : Bool} (h1 : a = a') (h2 : b = b') : Ending.returned (.tuple #[.string a, .string b, .bool f]) = .returned (.tuple #[.string a', .string b', .bool f]) := by rw [h1, h2]
theorem cut0 (s : ByteArray) (w : World) (hs : s.size ≤ 1048576) :
    Calls Tryd.prog 59 #[.string s, .string ⟨#[32]⟩] w fun e w' => e = .returned (.tuple #[.string (cN s), .string (cR s), .bool (decide (0 ≤ ci s))]) ∧ ∃ j, w' = w.drewN j := by
  have HI := Lib.hid (fun w => show Calls Tryd.prog 64 #[.string s, .string ⟨#[32]⟩] w (fun e w' => e = .returned (.int .i64 (ci s)) ∧ w' = w) from Tryd.stringslite_Index_one s 32 w)
  by_cases h : 0 ≤ ci s
  · obtain ⟨i, hi⟩ := Int.eq_ofNat_of_zero_le h
    have hlt : i < s.size := by
      have h2 := (Lib.indexByte_some (l := s.data.toList) (c := 32) (o := i) hi).1
      have h3 := (List.getElem?_eq_some_iff.1 h2).1
      rw [list_size]; exact h3
    have HN := Lib.hid (show cN s = s.extract 0 i by unfold cN; rw [if_pos h, hi]; rfl)
    have HR := Lib.hid (show cR s = s.extract (i + 1) s.size by unfold cR; rw [if_pos h, hi]; rfl)
    rw [decide_eq_true h]
    rw [hi] at HI
    have e1 : IntKind.i64.wrap ((i : Int) + 1) = (i : Int) + 1 := IntWalk.i64_in _ (by omega)
    clear h hi
    go_enter Tryd.func59, Tryd.ntmps59
    go_wp2_with fail
    refine (HI.out _).mono ?_
    rintro e w' ⟨rfl, rfl⟩
    go_wp2_with fail
    go_quiet (fail)
    go_wp2_with fail
    go_ret3
    exact ⟨three HN.out.symm HR.out.symm, _, rfl⟩
  · have HN := Lib.hid (show cN s = s by unfold cN; rw [if_neg h])
    have HR := Lib.hid (show cR s = ⟨#[]⟩ by unfold cR; rw [if_neg h])
    have g : decide (0 ≤ ci s) = false := decide_eq_false h
    rw [g]
    clear h
    generalize ci s = i at *
    go_enter Tryd.func59, Tryd.ntmps59
    go_wp2_with fail
    refine (HI.out _).mono ?_
    rintro e w' ⟨rfl, rfl⟩
    go_wp2_with fail
    go_ret3
    exact ⟨three HN.out.symm HR.out.symm, 0, rfl⟩
theorem cut1 (s : ByteArray) (w : World) (hs : s.size ≤ 1048576) :
    Calls Tryd.prog 54 #[.string s, .string ⟨#[32]⟩] w fun e w' => e = .returned (.tuple #[.string (cN s), .string (cR s), .bool (decide (0 ≤ ci s))]) ∧ ∃ j, w' = w.drewN j := by
  have HC := Lib.hid (fun w => cut0 s w hs)
  generalize cN s = a at *
  generalize cR s = b at *
  generalize decide (0 ≤ ci s) = f at *
  go_enter Tryd.func54, Tryd.ntmps54
  go_wp2_with fail
  refine (HC.out _).mono ?_
  rintro e w' ⟨rfl, j, rfl⟩
  go_wp2_with fail
  go_ret3
  exact ⟨rfl, j, rfl⟩

theorem trim_le (l p : List UInt8) : (⟨(Lib.trimSuffix l p).toArray⟩ : ByteArray).size ≤ l.length := by
  show (Lib.trimSuffix l p).length ≤ _
  unfold Lib.trimSuffix
  split
  · exact List.length_take_le' _ _
  · exact Nat.le_refl _
theorem readValue (t : ByteArray) (p m : UInt8) (w : World) (hs : t.size ≤ 1048576) (ht : fmt.Tab w) :
    Calls Tryd.prog 55 #[.string t, .string ⟨#[p]⟩, .string ⟨#[m]⟩] w fun e w' => e = .returned (.int .i64 (rv t p m)) ∧ Below w.heap.size w w' := by
  have hl : t.data.toList.length = t.size := (list_size t).symm
  have HC := Lib.hid (fun w => show Calls Tryd.prog 60 #[.string t, .string ⟨#[m]⟩] w (fun e w' => e = .returned (.tuple #[.string ⟨(Lib.trimSuffix t.data.toList [m]).toArray⟩, .bool (Lib.hasSuffix t.data.toList [m])]) ∧ w' = w) from Tryd.strings_CutSuffix t ⟨#[m]⟩ w (by omega))
  have HT := Lib.hid (fun w => show Calls Tryd.prog 62 #[.string t, .string ⟨#[p]⟩] w (fun e w' => e = .returned (.string ⟨(Lib.trimSuffix t.data.toList [p]).toArray⟩) ∧ w' = w) from Tryd.strings_TrimSuffix t ⟨#[p]⟩ w (by omega))
  have HM := Lib.hid (parse.impl_any ⟨(Lib.trimSuffix t.data.toList [m]).toArray⟩ w (by have := trim_le t.data.toList [m]; omega) ht)
  have HP := Lib.hid (parse.impl_any ⟨(Lib.trimSuffix t.data.toList [p]).toArray⟩ w (by have := trim_le t.data.toList [p]; omega) ht)
  obtain ⟨b0, b1⟩ := hgtt.rdN_bd ⟨(Lib.trimSuffix t.data.toList [m]).toArray⟩
  unfold rv
  generalize (⟨(Lib.trimSuffix t.data.toList [m]).toArray⟩ : ByteArray) = tm at *
  generalize (⟨(Lib.trimSuffix t.data.toList [p]).toArray⟩ : ByteArray) = tp at *
  generalize Lib.hasSuffix t.data.toList [m] = f at *
  generalize rdB tm = q1 at *
  generalize rdB tp = q2 at *
  generalize rdN tm = n at *
  generalize rdN tp = n2 at *
  clear hl hs ht
  cases f
  · rw [if_neg (by simp)]
    go_enter Tryd.func55, Tryd.ntmps55
    go_wp2_with fail
    refine (HC.out _).mono ?_
    rintro e w' ⟨rfl, rfl⟩
    go_wp2_with fail
    refine (HT.out _).mono ?_
    rintro e w' ⟨rfl, rfl⟩
    go_wp2_with fail
    refine HP.out.mono ?_
    rintro e w' ⟨rfl, hb⟩
    have HB := Lib.hid hb
    clear hb
    go_wp2_with fail
    go_ret
    exact ⟨rfl, HB.out⟩
  · rw [if_pos rfl]
    go_enter Tryd.func55, Tryd.ntmps55
    go_wp2_with fail
    refine (HC.out _).mono ?_
    rintro e w' ⟨rfl, rfl⟩
    go_wp2_with fail
    refine HM.out.mono ?_
    rintro e w' ⟨rfl, hb⟩
    have HB := Lib.hid hb
    clear hb
    go_wp2_with fail
    go_ret
    exact ⟨rfl, HB.out⟩

theorem cN_le (s : ByteArray) : (cN s).size ≤ s.size := by
  unfold cN
  split
  · rw [list_size, sub_list, list_size, List.length_take, List.length_drop]; omega
  · exact Nat.le_refl _
set_option maxRecDepth 100000 in
set_option maxHeartbeats 4000000 in
theorem readVelocity (s : ByteArray) (w : World) (hs : s.size ≤ 1048576) (ht : fmt.Tab w) (hN : (cN s).size ≤ 1048576) (hE : (cE s).size ≤ 1048576) :
    Calls Tryd.prog 39 #[.string s] w fun e w' => e = .returned (.agg #[.int .i64 (rvX s), .int .i64 (rvY s)]) ∧ Below w.heap.size w w' := by
  have HX := Lib.hid (fun (W : World) (h : Below w.heap.size w W) => readValue (cE s) 69 87 W hE (fmt.tab_on ht h))
  have HY := Lib.hid (fun (W : World) (h : Below w.heap.size w W) => readValue (cN s) 78 83 W hN (fmt.tab_on ht h))
  have HC := Lib.hid (fun w => cut1 s w hs)
  have Z0 := Lib.hid (newS 25 #[.int .i64 0, .int .i64 0] w)
  unfold rvX rvY
  clear ht hN hE
  by_cases h : 0 ≤ ci s
  · have e1 : cR s = cE s := by unfold cR cE; rw [if_pos h, if_pos h]
    rw [decide_eq_true h, e1] at HC
    clear h e1
    generalize rv (cE s) 69 87 = X at *
    generalize rv (cN s) 78 83 = Y at *
    generalize cN s = a at *
    generalize cE s = b at *
    go_enter Tryd.func39, Tryd.ntmps39
    go_wp2_with fail
    generalize w.alloc (.cells #[.int .i64 0, .int .i64 0] 25) = W at *
    refine (HC.out _).mono ?_
    rintro e W1 ⟨rfl, j, rfl⟩
    have Z1 := Lib.hid (Z0.out.drewN j)
    generalize W.drewN j = W1 at *
    clear Z0 HC
    go_wp2_with fail
    refine (HX.out W1 Z1.out.1).mono ?_
    rintro e W2 ⟨rfl, hb2⟩
    have Z2 := Lib.hid (Z1.out.old hb2)
    clear hb2 Z1
    go_wp2_with fail
    refine (HY.out W2 Z2.out.1).mono ?_
    rintro e W3 ⟨rfl, hb3⟩
    have Z3 := Lib.hid (Z2.out.old hb3)
    have z0 : W3.cell? ⟨w.heap.size, 0, none⟩ = some (.int .i64 0) := Z3.out.cell 0
    have z1 : W3.cell? ⟨w.heap.size, 1, none⟩ = some (.int .i64 0) := Z3.out.cell 1
    have f0 := Z3.out.frozen 0
    have f1 := Z3.out.frozen 1
    have HE := Lib.hid ((Z3.out.set 0 (.int .i64 X)).set 1 (.int .i64 Y))
    clear hb3 Z2
    go_wp2_with fail
    have hl := HE.out.load Tryd.underlying25 rfl (by kernel_rfl)
    refine bodyPost_ret (v := .agg #[.int .i64 X, .int .i64 Y]) ?_ rfl ⟨rfl, HE.out.1⟩
    rw [results_cell1 rfl]
    simp [asAddr, Result.andThen, hl]
  · have e1 : cE s = s := by unfold cE; rw [if_neg h]
    rw [decide_eq_false h] at HC
    rw [e1] at HX ⊢
    clear h e1
    generalize rv s 69 87 = X at *
    generalize rv (cN s) 78 83 = Y at *
    generalize cN s = a at *
    generalize cR s = b at *
    go_enter Tryd.func39, Tryd.ntmps39
    go_wp2_with fail
    generalize w.alloc (.cells #[.int .i64 0, .int .i64 0] 25) = W at *
    refine (HC.out _).mono ?_
    rintro e W1 ⟨rfl, j, rfl⟩
    have Z1 := Lib.hid (Z0.out.drewN j)
    generalize W.drewN j = W1 at *
    clear Z0 HC
    go_wp2_with fail
    refine (HX.out W1 Z1.out.1).mono ?_
    rintro e W2 ⟨rfl, hb2⟩
    have Z2 := Lib.hid (Z1.out.old hb2)
    clear hb2 Z1
    go_wp2_with fail
    refine (HY.out W2 Z2.out.1).mono ?_
    rintro e W3 ⟨rfl, hb3⟩
    have Z3 := Lib.hid (Z2.out.old hb3)
    have z0 : W3.cell? ⟨w.heap.size, 0, none⟩ = some (.int .i64 0) := Z3.out.cell 0
    have z1 : W3.cell? ⟨w.heap.size, 1, none⟩ = some (.int .i64 0) := Z3.out.cell 1
    have f0 := Z3.out.frozen 0
    have f1 := Z3.out.frozen 1
    have HE := Lib.hid ((Z3.out.set 0 (.int .i64 X)).set 1 (.int .i64 Y))
    clear hb3 Z2
    go_wp2_with fail
    have hl := HE.out.load Tryd.underlying25 rfl (by kernel_rfl)
    refine bodyPost_ret (v := .agg #[.int .i64 X, .int .i64 Y]) ?_ rfl ⟨rfl, HE.out.1⟩
    rw [results_cell1 rfl]
    simp [asAddr, Result.andThen, hl]

set_option maxRecDepth 100000 in
set_option maxHeartbeats 8000000 in
theorem implParse (s : ByteArray) (w : World) (hs : s.size ≤ 1048576) (ht : fmt.Tab w) :
    Calls Tryd.prog 16 #[.string s] w fun e w' => e = .returned (.tuple #[.agg #[.int .i64 (pvX s), .int .i64 (pvY s)], .bool (pvB s)]) ∧ Below w.heap.size w w' := by
  have hN : (cN s).size ≤ 1048576 := Nat.le_trans (cN_le s) hs
  have hE : (cE s).size ≤ 1048576 := by
    unfold cE
    split
    · rw [list_size, sub_list, List.length_take, List.length_drop, ← list_size]; omega
    · exact hs
  have HV := Lib.hid (fun (W : World) (h : Below w.heap.size w W) => readVelocity s W hs (fmt.tab_on ht h) hN hE)
  have HT := Lib.hid (fun (W : World) (h : Below w.heap.size w W) => implText (rvX s) (rvY s) W (fmt.tab_on ht h))
  have HN := Lib.hid (fun h => pv_no (s := s) h)
  have HY := Lib.hid (fun h => pv_yes (s := s) h)
  have hB : pvB s = (vB (rvX s) (rvY s) && ((vtT (rvX s) (rvY s)).toList == s.toList)) := by
    unfold pvB vtT
    cases vB (rvX s) (rvY s) <;> rfl
  have HB := Lib.hid hB
  have Z0 := Lib.hid (newS 25 #[.int .i64 0, .int .i64 0] w)
  clear hB hN hE ht hs
  generalize rvX s = X at *
  generalize rvY s = Y at *
  generalize vtT X Y = t at *
  generalize vB X Y = q at *
  go_enter Tryd.func16, Tryd.ntmps16
  go_wp2_with fail
  generalize w.alloc (.cells #[.int .i64 0, .int .i64 0] 25) = W at *
  refine (HV.out W Z0.out.1).mono ?_
  rintro e W1 ⟨rfl, hb1⟩
  have Z1 := Lib.hid ((Z0.out.old hb1).alloc (.cells #[.int .i64 X, .int .i64 Y] 25))
  have V1 := Lib.hid ((Z0.out.old hb1).next 25 #[.int .i64 X, .int .i64 Y])
  clear hb1 Z0 HV
  go_wp2_with fail
  generalize W1.alloc (.cells #[.int .i64 X, .int .i64 Y] 25) = W2 at *
  generalize W1.heap.size = b4 at *
  refine (HT.out W2 Z1.out.1).mono ?_
  rintro e W3 ⟨rfl, hb3⟩
  have Z3 := Lib.hid (Z1.out.old hb3)
  have V3 := Lib.hid (V1.out.old hb3)
  have z0 : W3.cell? ⟨w.heap.size, 0, none⟩ = some (.int .i64 0) := Z3.out.cell 0
  have z1 : W3.cell? ⟨w.heap.size, 1, none⟩ = some (.int .i64 0) := Z3.out.cell 1
  have f0 := Z3.out.frozen 0
  have f1 := Z3.out.frozen 1
  have v0 : W3.cell? ⟨b4, 0, none⟩ = some (.int .i64 X) := V3.out.cell 0
  have v1 : W3.cell? ⟨b4, 1, none⟩ = some (.int .i64 Y) := V3.out.cell 1
  clear hb3 Z1 V1
  cases q
  · have HR := Lib.hid (HN.out (by rw [HB.out]; rfl))
    have HE := Lib.hid ((Z3.out.set 0 (.int .i64 0)).set 1 (.int .i64 0))
    go_wp2_with fail
    have hl := HE.out.load Tryd.underlying25 rfl (by kernel_rfl)
    refine bodyPost_ret (v := .tuple #[.agg #[.int .i64 0, .int .i64 0], .bool false]) ?_ rfl ⟨by rw [HR.out], HE.out.1⟩
    rw [results_cell_tmp rfl]
    simp [asAddr, Result.andThen, hl]
  · cases hc : (t.toList == s.toList)
    · have HR := Lib.hid (HN.out (by rw [HB.out, hc]; rfl))
      have HE := Lib.hid ((Z3.out.set 0 (.int .i64 0)).set 1 (.int .i64 0))
      go_wp2_with fail
      have hl := HE.out.load Tryd.underlying25 rfl (by kernel_rfl)
      refine bodyPost_ret (v := .tuple #[.agg #[.int .i64 0, .int .i64 0], .bool false]) ?_ rfl ⟨by rw [HR.out], HE.out.1⟩
      rw [results_cell_tmp rfl]
      simp [asAddr, Result.andThen, hl]
    · have HR := Lib.hid (HY.out (by rw [HB.out, hc]; rfl))
      have HE := Lib.hid ((Z3.out.set 0 (.int .i64 X)).set 1 (.int .i64 Y))
      go_wp2_with fail
      have hl := HE.out.load Tryd.underlying25 rfl (by kernel_rfl)
      refine bodyPost_ret (v := .tuple #[.agg #[.int .i64 X, .int .i64 Y], .bool true]) ?_ rfl ⟨by rw [HR.out], HE.out.1⟩
      rw [results_cell_tmp rfl]
      simp [asAddr, Result.andThen, hl]
end Go.Proofs.YtdeghpihcddlgaaDoor.velq
