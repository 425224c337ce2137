/- spec's FramesOf. -/
import Derived.Test.YtpjpdfannnafbaaFrmW
import Derived.Laws.AppendOwn
namespace Go.Proofs.Ytpjpdfannnafbaa.frmx
open Go.RowKit Go.Proofs.Ytpjpdfannnafbaa.ints Go.Proofs.Ytpjpdfannnafbaa.frmz Go.Proofs.Ytpjpdfannnafbaa.frmw Go.Proofs.Ytpjpdfannnafbaa.frm Go.Proofs.Ytpjpdfannnafbaa.frms Go.Proofs.Ytpjpdfannnafbaa.good_ Go.Proofs.Ytpjpdfannnafbaa.in_

/-- The places of the address a among the first k frames. -/
def foT (zs : List Int) (a : Int) : Nat → List Int
  | 0 => []
  | k + 1 => if fld 3 zs k 1 = a then foT zs a k ++ [(k : Int)] else foT zs a k
theorem foT_yes {zs : List Int} {a : Int} {k : Nat} (h : fld 3 zs k 1 = a) : foT zs a (k + 1) = foT zs a k ++ [(k : Int)] := by simp only [foT, if_pos h]
theorem foT_no {zs : List Int} {a : Int} {k : Nat} (h : ¬ fld 3 zs k 1 = a) : foT zs a (k + 1) = foT zs a k := by simp only [foT, if_neg h]
theorem foT_length (zs : List Int) (a : Int) (k : Nat) : (foT zs a k).length ≤ k := by
  induction k with
  | zero => exact Nat.le_refl _
  | succ k ih =>
    by_cases h : fld 3 zs k 1 = a
    · rw [foT_yes h, List.length_append]; simp; omega
    · rw [foT_no h]; omega
def foB (zs : List Int) (n : Nat) (a : Int) : Bool := listB zs n && isIn a 1 65535
def foV (zs : List Int) (n : Nat) (a : Int) : List Int := if foB zs n a then foT zs a n else []
theorem fo_no {zs : List Int} {n : Nat} {a : Int} (h : foB zs n a = false) : foV zs n a = [] := by unfold foV; rw [h]; rfl
theorem fo_yes {zs : List Int} {n : Nat} {a : Int} (h : foB zs n a = true) : foV zs n a = foT zs a n := by unfold foV; rw [h]; rfl
theorem foV_length (zs : List Int) (n : Nat) (a : Int) : (foV zs n a).length ≤ n := by
  unfold foV
  split
  · exact foT_length zs a n
  · exact Nat.zero_le _
theorem list_le {zs : List Int} {n : Nat} (h : listB zs n = true) : n ≤ 20 := by
  unfold listB at h
  rw [Bool.and_eq_true] at h
  exact of_decide_eq_true h.1
theorem infoI : (Try.prog.info? 3).map (fun i => (i.zero, i.size, i.bytes)) = some (some (.int .i64 0), 1, 8) := by kernel_rfl
theorem own_grow {w : World} {B e : Nat} {v : Value} {xs : List Int} {x : Int} (h : w.ownsRow B e 1 v (xs.length + 1) (cellsI xs ++ [.int .i64 x])) : w.ownsRow B e 1 v (xs ++ [x]).length (cellsI (xs ++ [x])) := by
  unfold cellsI at h ⊢
  rw [List.map_append, List.length_append]
  exact h

set_option maxRecDepth 100000 in
set_option maxHeartbeats 1000000 in
theorem framesOf (zs : List Int) (a : Int) (A : Option Addr) (n c : Nat) (w : World) (hn : n ≤ 1048577) (h : RdZ 3 w w.heap.size A n zs) :
    Calls Try.prog 17 #[.slice A n c, .int .i64 a] w fun e w' => ∃ v, e = .returned (.tuple #[v, .bool (foB zs n a)]) ∧ w'.ownsRow w.heap.size 3 1 v (foV zs n a).length (cellsI (foV zs n a)) ∧ Below w.heap.size w w' := by
  have hL := Lib.hid (fun (w' : World) (hb : Below w.heap.size w w') => l5List zs A n c w' hn (h.next hb))
  have O0 := Lib.hid (own_.own_empty w 3)
  have E0 := Lib.hid ((Below.refl w.heap.size w).alloc (Nat.le_refl _) (.cells #[] 3))
  cases hb : listB zs n
  · have HF := Lib.hid (show foB zs n a = false from by unfold foB; rw [hb]; rfl)
    rw [hb] at hL
    clear h hb
    go_enter Try.func17, Try.ntmps17
    go_wp2_with fail
    refine (hL.out _ E0.out).mono ?_
    rintro e w1 ⟨rfl, hb1⟩
    have O1 := Lib.hid (own_.own_below O0.out hb1)
    have B1 := Lib.hid (E0.out.trans (hb1.mono E0.out.size))
    clear hb1
    go_wp2_with fail
    go_ret2
    exact ⟨_, by rw [HF.out]; rfl, by rw [fo_no HF.out]; exact O1.out, B1.out⟩
  · have h20 := list_le hb
    rw [hb] at hL
    cases ha : isIn a 1 65535
    · have HF := Lib.hid (show foB zs n a = false from by unfold foB; rw [hb, ha]; rfl)
      have hA := fun w => address5 a w
      rw [ha] at hA
      have HA := Lib.hid hA
      clear h hb ha hA
      go_enter Try.func17, Try.ntmps17
      go_wp2_with fail
      refine (hL.out _ E0.out).mono ?_
      rintro e w1 ⟨rfl, hb1⟩
      have O1 := Lib.hid (own_.own_below O0.out hb1)
      have B1 := Lib.hid (E0.out.trans (hb1.mono E0.out.size))
      clear hb1
      go_wp2_with fail
      refine (HA.out _).mono ?_
      rintro e w2 ⟨rfl, rfl⟩
      go_wp2_with fail
      go_ret2
      exact ⟨_, by rw [HF.out]; rfl, by rw [fo_no HF.out]; exact O1.out, B1.out⟩
    · have HF := Lib.hid (show foB zs n a = true from by unfold foB; rw [hb, ha]; rfl)
      obtain ⟨i0, hi, hz0, hz1, hz2⟩ := info_parts infoI
      have hA := fun w => address5 a w
      rw [ha] at hA
      have HA := Lib.hid hA
      clear hb ha hA
      go_enter Try.func17, Try.ntmps17
      go_wp2_with fail
      refine (hL.out _ E0.out).mono ?_
      rintro e w1 ⟨rfl, hb1⟩
      have O1 := Lib.hid (own_.own_below O0.out hb1)
      have B1 := Lib.hid (E0.out.trans (hb1.mono E0.out.size))
      clear hb1
      go_wp2_with fail
      refine (HA.out _).mono ?_
      rintro e w2 ⟨rfl, rfl⟩
      go_wp2_with fail
      go_loopw [6, 7] (fun v i wr => ∃ k : Nat, k ≤ n ∧ i = .int .i64 k ∧ wr.ownsRow w.heap.size 3 1 v (foT zs a k).length (cellsI (foT zs a k)) ∧ Below w.heap.size w wr) (fun _ i _ => n - (intOf i).toNat)
      case atStart => exact ⟨0, Nat.zero_le _, rfl, O1.out, B1.out⟩
      case round =>
        obtain ⟨k, hk, rfl, hown, hbw⟩ := hrel
        have hsz := hbw.size
        have hlen := foT_length zs a k
        by_cases hlt : k < n
        · obtain ⟨b, o, rfl, l1, p0, p1, p2⟩ := cells3 (h.below hbw (Nat.le_refl _)) hlt
          have hlt2 : (k : Int) < (n : Int) := by omega
          clear h p0 p2 hL
          by_cases he : fld 3 zs k 1 = a
          · have HS := Lib.hid (foT_yes he)
            have h1 : (a == a) = true := by simp
            rw [he] at p1
            clear he
            go_wp2_with (at_builtin; refine wpList_append_own _ rfl (.tmp 31) (.tmp 33) 33 rfl w.heap.size 3 i0 (.int .i64 0) 1 8 Try.underlying33 hi hz0 hz1 hz2 rfl (by decide) _ (foT zs a k).length (cellsI (foT zs a k)) rfl (hown.alloc _) ⟨wr.heap.size, 0, none⟩ 1 1 [.int .i64 k] rfl rfl (cell_one_new _ _ _) (own_.one_cell _ rfl) (by unfold maxLen; omega) (by omega) (by simp; omega) ?_; intro v' w3 hown' hgrow hnil)
            have hb' := own_.below_append hbw hown hsz hgrow
            have HO := Lib.hid (own_grow hown')
            clear hown' hgrow hnil hown hbw p1
            go_roundw
            case rel => exact ⟨k + 1, by omega, by go_num, by rw [HS.out]; exact HO.out, hb'⟩
            case measure => simp [intOf]; omega
          · have HS := Lib.hid (foT_no he)
            have h1 : (fld 3 zs k 1 == a) = false := by simpa using he
            clear he
            go_wp2_with fail
            go_roundw
            case rel => exact ⟨k + 1, by omega, by go_num, by rw [HS.out]; exact hown, hbw⟩
            case measure => simp [intOf]; omega
        · obtain rfl : k = n := by omega
          clear h hL
          go_wp2_with fail
          go_ret2
          exact ⟨_, by rw [HF.out]; rfl, by rw [fo_yes HF.out]; exact hown, hbw⟩
end Go.Proofs.Ytpjpdfannnafbaa.frmx
