/- spec's AddressesOf. -/
import Derived.Test.YtpjpdfannnafbaaFrmR
namespace Go.Proofs.Ytpjpdfannnafbaa.frma
open Go.RowKit Go.Proofs.Ytpjpdfannnafbaa.ints Go.Proofs.Ytpjpdfannnafbaa.frmz Go.Proofs.Ytpjpdfannnafbaa.frmw Go.Proofs.Ytpjpdfannnafbaa.frmx Go.Proofs.Ytpjpdfannnafbaa.frmq

/-- The different addresses of the first k frames, ascending. -/
def adT (zs : List Int) : Nat → List Int
  | 0 => []
  | k + 1 => put (adT zs k) (fld 3 zs k 1)
theorem adT_length (zs : List Int) (k : Nat) : (adT zs k).length ≤ k := by
  induction k with
  | zero => exact Nat.le_refl _
  | succ k ih => exact Nat.le_trans (put_length _ _) (by omega)
def adV (zs : List Int) (n : Nat) : List Int := if listB zs n then adT zs n else []
theorem ad_no {zs : List Int} {n : Nat} (h : listB zs n = false) : adV zs n = [] := by unfold adV; rw [h]; rfl
theorem ad_yes {zs : List Int} {n : Nat} (h : listB zs n = true) : adV zs n = adT zs n := by unfold adV; rw [h]; rfl
theorem adV_length (zs : List Int) (n : Nat) : (adV zs n).length ≤ n := by
  unfold adV
  split
  · exact adT_length zs n
  · exact Nat.zero_le _
theorem put_pos (xs : List Int) (y : Int) : 0 < (put xs y).length := by
  unfold put
  split
  · rename_i h; omega
  · simp; omega
theorem own_form {w : World} {B e n : Nat} {v : Value} {xs : List Value} (h : w.ownsRow B e 1 v n xs) (hn : 0 < n) : ∃ g c, v = .slice (some ⟨g, 0, none⟩) n c ∧ n ≤ c := by
  rcases h.2 with ⟨_, h0⟩ | ⟨g, cap, cur, hv, _, _, hc, _⟩
  · omega
  · exact ⟨g, cap, hv, hc⟩

set_option maxRecDepth 100000 in
set_option maxHeartbeats 2000000 in
theorem addressesOf (zs : List Int) (A : Option Addr) (n c : Nat) (w : World) (hn : n ≤ 1048577) (h : RdZ 3 w w.heap.size A n zs) :
    Calls Try.prog 21 #[.slice A n c] w fun e w' => ∃ v, e = .returned (.tuple #[v, .bool (listB zs n)]) ∧ w'.ownsRow w.heap.size 3 1 v (adV zs n).length (cellsI (adV zs n)) ∧ Below w.heap.size w w' := by
  have hL := Lib.hid (fun (w' : World) (hb : Below w.heap.size w w') => l5List zs A n c w' hn (h.next hb))
  have O0 := Lib.hid (own_.own_empty w 3)
  have E0 := Lib.hid ((Below.refl w.heap.size w).alloc (Nat.le_refl _) (.cells #[] 3))
  cases hb : listB zs n
  · have HF := Lib.hid hb
    rw [hb] at hL
    clear h hb
    go_enter Try.func21, Try.ntmps21
    go_wp2_with fail
    refine (hL.out _ E0.out).mono ?_
    rintro e w1 ⟨rfl, hb1⟩
    have O1 := Lib.hid (own_.own_below O0.out hb1)
    have B1 := Lib.hid (E0.out.trans (hb1.mono E0.out.size))
    clear hb1
    go_wp2_with fail
    go_ret2
    exact ⟨_, rfl, by rw [ad_no HF.out]; exact O1.out, B1.out⟩
  · have h20 := list_le hb
    have HF := Lib.hid hb
    rw [hb] at hL
    clear hb
    go_enter Try.func21, Try.ntmps21
    go_wp2_with fail
    refine (hL.out _ E0.out).mono ?_
    rintro e w1 ⟨rfl, hb1⟩
    have O1 := Lib.hid (own_.own_below O0.out hb1)
    have B1 := Lib.hid (E0.out.trans (hb1.mono E0.out.size))
    clear hb1
    go_wp2_with fail
    go_loopw [4, 5] (fun v i wr => ∃ k : Nat, k ≤ n ∧ i = .int .i64 k ∧ (∃ g c, v = .slice (some ⟨g, 0, none⟩) (adT zs k).length c ∧ (adT zs k).length ≤ c) ∧ wr.ownsRow w.heap.size 3 1 v (adT zs k).length (cellsI (adT zs k)) ∧ Below w.heap.size w wr) (fun _ i _ => n - (intOf i).toNat)
    case atStart => exact ⟨0, Nat.zero_le _, rfl, ⟨_, _, rfl, Nat.le_refl _⟩, O1.out, B1.out⟩
    case round =>
      obtain ⟨k, hk, rfl, ⟨g, c', rfl, hgc⟩, hown, hbw⟩ := hrel
      have hsz := hbw.size
      have hlen := adT_length zs k
      by_cases hlt : k < n
      · obtain ⟨b, o, rfl, l1, p0, p1, p2⟩ := cells3 (h.below hbw (Nat.le_refl _)) hlt
        have hlt2 : (k : Int) < (n : Int) := by omega
        have X := Lib.hid (frmr.l1Put w.heap.size (adT zs k) (fld 3 zs k 1) g (adT zs k).length c' wr (by omega) hsz hgc hown)
        have HST := Lib.hid (show adT zs (k + 1) = put (adT zs k) (fld 3 zs k 1) from rfl)
        have HP := Lib.hid (put_pos (adT zs k) (fld 3 zs k 1))
        clear h p0 p2 hL hown hgc
        generalize fld 3 zs k 1 = y at *
        go_wp2_with fail
        refine X.out.mono ?_
        rintro e w2 ⟨v, rfl, hown2, hb2⟩
        have hbq := Lib.hid (hbw.trans (hb2.mono hsz))
        have HO := Lib.hid hown2
        clear hb2 hown2 p1
        go_wp2_with fail
        go_roundw
        case rel => exact ⟨k + 1, by omega, by go_num, by rw [HST.out]; exact own_form HO.out HP.out, by rw [HST.out]; exact HO.out, hbq.out⟩
        case measure => simp [intOf]; omega
      · obtain rfl : k = n := by omega
        clear h hL
        go_wp2_with fail
        go_ret2
        exact ⟨_, rfl, by rw [ad_yes HF.out]; exact hown, hbw⟩
end Go.Proofs.Ytpjpdfannnafbaa.frma
