/- ReceiveAll in plain mathematics: one message after another. -/
import Derived.Test.YtdjcbfeilkepmaaRcvS
namespace Go.Proofs.Ytdjcbfeilkepmaa.rcvt
open Go.RowKit Go.Proofs.Ytdjcbfeilkepmaa.in_ Go.Proofs.Ytdjcbfeilkepmaa.rcv Go.Proofs.Ytdjcbfeilkepmaa.rcvp

/-- One message at a state (minute, list, how many were received). -/
def stp (t : Int) (q : Int × List Hd × Int) (s : ByteArray) : Int × List Hd × Int :=
  if rcB q.1 q.2.1 s t then (t, rL q.2.1 (frm.rfK s) (frm.rfA s) (frm.rfD s) t, q.2.2 + 1) else q
theorem ra_cons (t : Int) (s : ByteArray) (l : List ByteArray) (q : Int × List Hd × Int) : raS t (s :: l) q = raS t l (stp t q s) := by
  obtain ⟨m, hs, n⟩ := q
  rfl
theorem ra_snoc (t : Int) (s : ByteArray) : ∀ (l : List ByteArray) (q : Int × List Hd × Int), raS t (l ++ [s]) q = stp t (raS t l q) s
  | [], q => by rw [List.nil_append, ra_cons]; rfl
  | x :: l, q => by rw [List.cons_append, ra_cons, ra_cons, ra_snoc t s l]
theorem ra_take (t : Int) {xs : List ByteArray} {k : Nat} {s : ByteArray} (q : Int × List Hd × Int) (h : xs[k]? = some s) : raS t (xs.take (k + 1)) q = stp t (raS t (xs.take k) q) s := by
  rw [List.take_add_one, h]
  exact ra_snoc t s _ q
theorem stp_no {t : Int} {q : Int × List Hd × Int} {s : ByteArray} (h : rcB q.1 q.2.1 s t = false) : stp t q s = q := by
  unfold stp
  rw [h]
  rfl
theorem stp_yes {t : Int} {q : Int × List Hd × Int} {s : ByteArray} (h : rcB q.1 q.2.1 s t = true) : stp t q s = (rcM q.1 q.2.1 s t, rcL q.1 q.2.1 s t, q.2.2 + 1) := by
  unfold stp rcM rcL
  rw [if_pos h, if_pos h, if_pos h]
theorem stp_valid {t : Int} {q : Int × List Hd × Int} {s : ByteArray} (h : vB q.1 q.2.1 = true) : vB (stp t q s).1 (stp t q s).2.1 = true := by
  cases hb : rcB q.1 q.2.1 s t
  · rw [stp_no hb]; exact h
  · rw [stp_yes hb]; exact rc_valid hb
theorem stp_cnt (t : Int) (q : Int × List Hd × Int) (s : ByteArray) : q.2.2 ≤ (stp t q s).2.2 ∧ (stp t q s).2.2 ≤ q.2.2 + 1 := by
  cases hb : rcB q.1 q.2.1 s t
  · rw [stp_no hb]; omega
  · rw [stp_yes hb]; show q.2.2 ≤ q.2.2 + 1 ∧ q.2.2 + 1 ≤ q.2.2 + 1; omega
/-- The state behind the first k messages. -/
def raK (t m : Int) (hs : List Hd) (xs : List ByteArray) (k : Nat) : Int × List Hd × Int := raS t (xs.take k) (m, hs, 0)
theorem raK_zero (t m : Int) (hs : List Hd) (xs : List ByteArray) : raK t m hs xs 0 = (m, hs, 0) := rfl
theorem raK_succ (t m : Int) (hs : List Hd) {xs : List ByteArray} {k : Nat} {s : ByteArray} (h : xs[k]? = some s) : raK t m hs xs (k + 1) = stp t (raK t m hs xs k) s := ra_take t _ h
theorem raK_all (t m : Int) (hs : List Hd) (xs : List ByteArray) : raK t m hs xs xs.length = raS t xs (m, hs, 0) := by
  unfold raK
  rw [List.take_length]
theorem raK_ok {m : Int} {hs : List Hd} (t : Int) (xs : List ByteArray) (h : vB m hs = true) : ∀ k, k ≤ xs.length → vB (raK t m hs xs k).1 (raK t m hs xs k).2.1 = true ∧ 0 ≤ (raK t m hs xs k).2.2 ∧ (raK t m hs xs k).2.2 ≤ k
  | 0, _ => ⟨h, by show (0 : Int) ≤ 0 ∧ (0 : Int) ≤ ((0 : Nat) : Int); omega⟩
  | k + 1, hk => by
    obtain ⟨h1, h2, h3⟩ := raK_ok t xs h k (by omega)
    obtain ⟨s, hs'⟩ : ∃ s, xs[k]? = some s := ⟨xs[k], List.getElem?_eq_getElem hk⟩
    rw [raK_succ t m hs hs']
    have h4 := stp_cnt t (raK t m hs xs k) s
    exact ⟨stp_valid h1, by omega, by omega⟩
/-- ReceiveAll: told, and what it returns. -/
def raB (m : Int) (hs : List Hd) (n : Nat) (t : Int) : Bool := goB m hs t && decide (n ≤ 20)
def raV (m : Int) (hs : List Hd) (xs : List ByteArray) (t : Int) : Int × List Hd × Int := if raB m hs xs.length t then raS t xs (m, hs, 0) else (0, [], 0)
theorem ra_no {m : Int} {hs : List Hd} {xs : List ByteArray} {t : Int} (h : raB m hs xs.length t = false) : raV m hs xs t = (0, [], 0) := by unfold raV; rw [h]; rfl
theorem ra_yes {m : Int} {hs : List Hd} {xs : List ByteArray} {t : Int} (h : raB m hs xs.length t = true) : raV m hs xs t = raK t m hs xs xs.length := by unfold raV; rw [h, raK_all]; rfl
theorem ra_le (m : Int) (hs : List Hd) (xs : List ByteArray) (t : Int) : (raV m hs xs t).2.1.length ≤ 1048576 := by
  cases h : raB m hs xs.length t
  · rw [ra_no h]; exact Nat.zero_le _
  · rw [ra_yes h]
    have hv : vB m hs = true := by
      unfold raB at h
      rw [Bool.and_eq_true] at h
      exact go_val h.1
    have := (v_parts (raK_ok t xs hv xs.length (Nat.le_refl _)).1).2.1
    omega
end Go.Proofs.Ytdjcbfeilkepmaa.rcvt
