/- spec's l12Links. -/
import Derived.BigQuiet
import Derived.Test.YtndogafihaooiaaLnk
import Derived.Test.YtndogafihaooiaaAtS
namespace Go.Proofs.Ytndogafihaooiaa.lnks
open Go.RowKit Go.Proofs.Ytndogafihaooiaa.ints Go.Proofs.Ytndogafihaooiaa.lst Go.Proofs.Ytndogafihaooiaa.in_ Go.Proofs.Ytndogafihaooiaa.ats Go.Proofs.Ytndogafihaooiaa.lnk

theorem cells3 {w : World} {B n k : Nat} {A : Option Addr} {zs : List Int} (h : RdZ 3 w B A n zs) (hk : k < n) :
    ∃ b o, A = some ⟨b, o, none⟩ ∧ b < B ∧ w.cell? ⟨b, o + k * 3, none⟩ = some (.int .i64 (fld 3 zs k 0)) ∧ w.cell? ⟨b, o + k * 3 + 1, none⟩ = some (.int .i64 (fld 3 zs k 1)) ∧ w.cell? ⟨b, o + k * 3 + 2, none⟩ = some (.int .i64 (fld 3 zs k 2)) := by
  obtain ⟨b, o, e, hb, hc⟩ := h.at_ hk
  exact ⟨b, o, e, hb, hc 0 (by omega), hc 1 (by omega), hc 2 (by omega)⟩
def lnQ (ls : List Int) (q : Int) (k : Nat) : Bool := isIn (fld 3 ls k 0) 0 q && (isIn (fld 3 ls k 1) 0 q && (decide (fld 3 ls k 0 ≠ fld 3 ls k 1) && isIn (fld 3 ls k 2) (-1000000) 1000000))
def lkQ (ls : List Int) (q : Int) : Nat → Bool
  | 0 => true
  | k + 1 => lkQ ls q k && lnQ ls q k
theorem lkQ_at {ls : List Int} {q : Int} {m k : Nat} (h : lkQ ls q m = true) (hk : k < m) : lnQ ls q k = true := by
  induction m with
  | zero => omega
  | succ m ih =>
    rw [lkQ, Bool.and_eq_true] at h
    by_cases e : k = m
    · subst e; exact h.2
    · exact ih h.1 (by omega)
theorem lkQ_is (ls : List Int) (n : Int) (m : Nat) : lkQ ls (n - 1) m = lkT ls n m := by
  induction m with
  | zero => rfl
  | succ m ih => rw [lkQ, lkT, ih]; rfl
theorem lkB_is {ls : List Int} {n q : Int} {m : Nat} (hq : isIn n 1 6 = true → q = n - 1) : (lkQ ls q m && (isIn n 1 6 && decide (m ≤ 12))) = lkB ls n m := by
  unfold lkB
  cases h : isIn n 1 6
  · simp
  · rw [hq h, lkQ_is]

set_option maxRecDepth 100000 in
set_option maxHeartbeats 4000000 in
theorem links12 (n : Int) (ls : List Int) (A : Option Addr) (m c : Nat) (w : World) (hm : m ≤ 1048577) (h1 : RdZ 3 w w.heap.size A m ls) :
    Calls Try.prog 80 #[.int .i64 n, .slice A m c] w fun e w' => e = .returned (.bool (lkB ls n m)) ∧ Below w.heap.size w w' := by
  obtain ⟨q, hq⟩ : ∃ q, IntKind.i64.wrap (n - 1) = q := ⟨_, rfl⟩
  have HIS := lkB_is (ls := ls) (n := n) (q := q) (m := m) (fun h => by
    have := of_decide_eq_true h
    rw [← hq, IntWalk.i64_in _ (by omega)])
  have HIS := Lib.hid HIS
  have HNO := Lib.hid (fun k (hk : k < m) (h : lnQ ls q k = false) => show lkB ls n m = false by
    rw [← HIS.out]
    cases e : lkQ ls q m with
    | false => rfl
    | true => rw [lkQ_at e hk] at h; cases h)
  have HI := Lib.hid (fun w => l1In n 1 6 w)
  have HR := Lib.hid h1
  clear h1
  go_enter Try.func80, Try.ntmps80
  go_wp2_with fail
  go_loopw [5] (fun i wr => ∃ k : Nat, k ≤ m ∧ i = .int .i64 k ∧ Below w.heap.size w wr ∧ lkQ ls q k = true) (fun i _ => m - (intOf i).toNat)
  case atStart => exact ⟨0, Nat.zero_le _, rfl, Below.refl _ _, rfl⟩
  case round =>
    obtain ⟨k, hk, rfl, hb, hck⟩ := hrel
    have HB := Lib.hid hb
    have HCK := Lib.hid hck
    by_cases hlt : k < m
    · have hlt2 : (k : Int) < (m : Int) := by omega
      obtain ⟨b1, o1, rfl, l1, p0, p1, p2⟩ := cells3 (HR.out.below hb (Nat.le_refl _)) hlt
      have I1 := fun w => l1In (fld 3 ls k 0) 0 q w
      have I2 := fun w => l1In (fld 3 ls k 1) 0 q w
      have I4 := fun w => l1In (fld 3 ls k 2) (-1000000) 1000000 w
      have HNk := Lib.hid (HNO.out k hlt)
      have HO := Lib.hid (show lnQ ls q k = (isIn (fld 3 ls k 0) 0 q && (isIn (fld 3 ls k 1) 0 q && (decide (fld 3 ls k 0 ≠ fld 3 ls k 1) && isIn (fld 3 ls k 2) (-1000000) 1000000))) from rfl)
      have HS := Lib.hid (show lkQ ls q (k + 1) = (lkQ ls q k && lnQ ls q k) from rfl)
      clear hb hck HNO HIS
      generalize fld 3 ls k 0 = x at *
      generalize fld 3 ls k 1 = y at *
      generalize fld 3 ls k 2 = z at *
      have HB2 := Lib.hid (HB.out.alloc HB.out.size (.cells #[.int .i64 x, .int .i64 y, .int .i64 z] 50))
      cases ha : isIn x 0 q
      · have HN := Lib.hid (HNk.out (by rw [HO.out, ha]; rfl))
        rw [ha] at I1
        have I1 := Lib.hid I1
        clear ha HO HS HNk I2 I4
        go_wp2_with fail
        refine (I1.out _).mono ?_
        rintro e w' ⟨rfl, rfl⟩
        go_wp2_with fail
        go_ret
        exact ⟨by rw [HN.out]; rfl, HB2.out⟩
      rw [ha] at I1
      have I1 := Lib.hid I1
      cases hb : isIn y 0 q
      · have HN := Lib.hid (HNk.out (by rw [HO.out, ha, hb]; rfl))
        rw [hb] at I2
        have I2 := Lib.hid I2
        clear ha hb HO HS HNk I4
        go_wp2_with fail
        refine (I1.out _).mono ?_
        rintro e w' ⟨rfl, rfl⟩
        go_wp2_with fail
        refine (I2.out _).mono ?_
        rintro e w' ⟨rfl, rfl⟩
        go_wp2_with fail
        go_ret
        exact ⟨by rw [HN.out]; rfl, HB2.out⟩
      rw [hb] at I2
      have I2 := Lib.hid I2
      by_cases hxy : x = y
      · have HN := Lib.hid (HNk.out (by rw [HO.out, ha, hb, decide_eq_false (fun h => h hxy)]; rfl))
        have xe : (x == y) = true := beq_iff_eq.mpr hxy
        clear ha hb HO HS HNk I4 hxy
        go_wp2_with fail
        refine (I1.out _).mono ?_
        rintro e w' ⟨rfl, rfl⟩
        go_wp2_with fail
        refine (I2.out _).mono ?_
        rintro e w' ⟨rfl, rfl⟩
        go_wp2_with fail
        go_ret
        exact ⟨by rw [HN.out]; rfl, HB2.out⟩
      have xe : (x == y) = false := beq_eq_false_iff_ne.mpr hxy
      cases hz : isIn z (-1000000) 1000000
      · have HN := Lib.hid (HNk.out (by rw [HO.out, ha, hb, decide_eq_true hxy, hz]; rfl))
        rw [hz] at I4
        have I4 := Lib.hid I4
        clear ha hb hz HO HS HNk hxy
        go_wp2_with fail
        refine (I1.out _).mono ?_
        rintro e w' ⟨rfl, rfl⟩
        go_wp2_with fail
        refine (I2.out _).mono ?_
        rintro e w' ⟨rfl, rfl⟩
        go_wp2_with fail
        refine (I4.out _).mono ?_
        rintro e w' ⟨rfl, rfl⟩
        go_wp2_with fail
        go_ret
        exact ⟨by rw [HN.out]; rfl, HB2.out⟩
      rw [hz] at I4
      have I4 := Lib.hid I4
      have HT := Lib.hid (show lkQ ls q (k + 1) = true by rw [HS.out, HCK.out, HO.out, ha, hb, decide_eq_true hxy, hz]; rfl)
      clear ha hb hz HO HS HNk hxy
      go_wp2_with fail
      refine (I1.out _).mono ?_
      rintro e w' ⟨rfl, rfl⟩
      go_wp2_with fail
      refine (I2.out _).mono ?_
      rintro e w' ⟨rfl, rfl⟩
      go_wp2_with fail
      refine (I4.out _).mono ?_
      rintro e w' ⟨rfl, rfl⟩
      go_wp2_with fail
      go_roundw
      case rel => exact ⟨k + 1, by omega, by go_num, HB2.out, HT.out⟩
      case measure => simp [intOf]; omega
    · obtain rfl : k = m := by omega
      have HE := HIS.out
      rw [HCK.out, Bool.true_and] at HE
      clear hb hck HNO HIS
      cases hn : isIn n 1 6
      · have HI := fun w => HI.out w
        rw [hn] at HI HE
        have HI := Lib.hid HI
        have HEE := Lib.hid HE
        clear HE
        clear hn
        go_wp2_with fail
        refine (HI.out _).mono ?_
        rintro e w2 ⟨rfl, rfl⟩
        go_wp2_with fail
        go_ret
        exact ⟨by rw [← HEE.out]; rfl, HB.out⟩
      · have HI := fun w => HI.out w
        rw [hn, Bool.true_and] at HE
        rw [hn] at HI
        have HI := Lib.hid HI
        clear hn
        by_cases h12 : k ≤ 12
        · rw [decide_eq_true h12] at HE
          have HEE := Lib.hid HE
          clear HE
          have h12i : (k : Int) ≤ 12 := by omega
          go_wp2_with fail
          refine (HI.out _).mono ?_
          rintro e w2 ⟨rfl, rfl⟩
          go_wp2_with fail
          go_ret
          exact ⟨by rw [← HEE.out]; rfl, HB.out⟩
        · rw [decide_eq_false h12] at HE
          have HEE := Lib.hid HE
          clear HE
          have h12i : decide ((k : Int) ≤ 12) = false := decide_eq_false (by omega)
          clear h12 hlt
          go_wp2_with fail
          refine (HI.out _).mono ?_
          rintro e w2 ⟨rfl, rfl⟩
          go_wp2_with fail
          go_ret
          exact ⟨by rw [← HEE.out]; rfl, HB.out⟩
end Go.Proofs.Ytndogafihaooiaa.lnks
