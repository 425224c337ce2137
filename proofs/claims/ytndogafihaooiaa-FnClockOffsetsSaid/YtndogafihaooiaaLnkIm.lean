/- The search of impl's offsetsFrom: clocks that wait, in plain mathematics; its rows in memory. -/
import Derived.Test.YtndogafihaooiaaLnkP
import Derived.Test.YtndogafihaooiaaLnkW
import Derived.Test.YtndogafihaooiaaQue
namespace Go.Proofs.Ytndogafihaooiaa.lnkim
open Go.RowKit Go.Proofs.Ytndogafihaooiaa.ints Go.Proofs.Ytndogafihaooiaa.lst Go.Proofs.Ytndogafihaooiaa.in_ Go.Proofs.Ytndogafihaooiaa.lnk Go.Proofs.Ytndogafihaooiaa.lnkp Go.Proofs.Ytndogafihaooiaa.lnkw Go.Proofs.Ytndogafihaooiaa.que

/-- Ahead of a round: the clocks Q wait, k of them, behind o others. -/
structure Otr (ls : List Int) (n m s k o : Nat) (sn : Nat → Bool) (of : Nat → Int) (Q : List Nat) : Prop where
  srch : Srch ls n m s sn of
  mem : ∀ c, c ∈ Q → sn c = true
  wal : Walked ls m sn Q
  len : k = Q.length
  small : o + k ≤ cnT sn n
/-- In a round: the clock q, the first of those that wait, its first i ways. -/
structure Inr (ls : List Int) (n m s d q i k o : Nat) (sn : Nat → Bool) (of : Nat → Int) (Q : List Nat) : Prop where
  srch : Srch ls n m s sn of
  mem : ∀ c, c ∈ q :: Q → sn c = true
  wal : Walked ls m sn (q :: Q)
  out : Out ls i sn q
  len : k = Q.length + 1
  small : o + k ≤ cnT sn n
  cnt : k + (n - cnT sn n) ≤ d
theorem Otr.begin {ls : List Int} {n m s : Nat} (hs : s < n) : Otr ls n m s 1 0 (upd (fun _ => false) s true) (fun _ => 0) [s] where
  srch := Srch.begin hs
  mem := fun c hc => by
    obtain rfl := List.mem_singleton.1 hc
    exact upd_same _ _ _
  wal := fun c hc hn => by
    have e : c ≠ s := fun e => hn (by rw [e]; exact List.mem_singleton.2 rfl)
    rw [upd_other _ _ e] at hc
    cases hc
  len := rfl
  small := cnT_pos hs (upd_same _ _ _)
theorem Otr.enter {ls : List Int} {n m s k o q : Nat} {sn : Nat → Bool} {of : Nat → Int} {Q : List Nat} (h : Otr ls n m s k o sn of (q :: Q)) : Inr ls n m s (k + (n - cnT sn n)) q 0 k o sn of Q :=
  ⟨h.srch, h.mem, h.wal, fun i hi => absurd hi (Nat.not_lt_zero i), by rw [h.len]; rfl, h.small, Nat.le_refl _⟩
theorem Inr.done {ls : List Int} {n m s d q k o o' : Nat} {sn : Nat → Bool} {of : Nat → Int} {Q : List Nat} (h : Inr ls n m s d q (2 * m) k o sn of Q) (ho : o' ≤ o + 1) : Otr ls n m s (k - 1) o' sn of Q where
  srch := h.srch
  mem := fun c hc => h.mem c (List.mem_cons_of_mem _ hc)
  wal := fun c hc hn => by
    by_cases e : c = q
    · rw [e]; exact h.out
    · exact h.wal c hc (fun hm => by
        rcases List.mem_cons.1 hm with h1 | h1
        · exact e h1
        · exact hn h1)
  len := by rw [h.len]; rfl
  small := by have := h.small; have := h.len; omega
theorem Inr.skip {ls : List Int} {n m s d q i k o : Nat} {sn : Nat → Bool} {of : Nat → Int} {Q : List Nat} (h : Inr ls n m s d q i k o sn of Q) (hF : wF ls i ≠ q) : Inr ls n m s d q (i + 1) k o sn of Q :=
  ⟨h.srch, h.mem, h.wal, fun j hj e => by
    by_cases e2 : j = i
    · rw [e2] at e; exact absurd e hF
    · exact h.out j (by omega) e, h.len, h.small, h.cnt⟩
theorem Inr.old {ls : List Int} {n m s d q i k o : Nat} {sn : Nat → Bool} {of : Nat → Int} {Q : List Nat} (h : Inr ls n m s d q i k o sn of Q) (hT : sn (wT ls i) = true) : Inr ls n m s d q (i + 1) k o sn of Q :=
  ⟨h.srch, h.mem, h.wal, fun j hj e => by
    by_cases e2 : j = i
    · rw [e2]; exact hT
    · exact h.out j (by omega) e, h.len, h.small, h.cnt⟩
theorem upd_mono {sn : Nat → Bool} {t c : Nat} (h : sn c = true) : upd sn t true c = true := by
  by_cases e : c = t
  · rw [e]; exact upd_same _ _ _
  · rw [upd_other _ _ e]; exact h
theorem Inr.new {ls : List Int} {n m s d q i k o o' : Nat} {sn : Nat → Bool} {of : Nat → Int} {Q : List Nat} (hv : lkT ls (n : Int) m = true) (h : Inr ls n m s d q i k o sn of Q) (hi : i < 2 * m) (hF : wF ls i = q) (hT : sn (wT ls i) = false) (ho : o' + (k + 1) ≤ o + k + 1) :
    Inr ls n m s d q (i + 1) (k + 1) o' (upd sn (wT ls i) true) (upd of (wT ls i) (of q + wO ls i)) (Q ++ [wT ls i]) := by
  have hq : sn q = true := h.mem q List.mem_cons_self
  have hlt := (way_nat hv hi).2.2.2.2.1
  have hc := cnT_upd (n := n) hlt hT
  have hle := cnT_le (upd sn (wT ls i) true) n
  refine ⟨?_, fun c hm => ?_, fun c hs hn => ?_, fun j hj e => ?_, ?_, ?_, ?_⟩
  · rw [← hF]; exact way_next hv h.srch hi (by rw [hF]; exact hq) hT
  · rw [← List.cons_append] at hm
    rcases List.mem_append.1 hm with h1 | h1
    · exact upd_mono (h.mem c h1)
    · rw [List.mem_singleton.1 h1]; exact upd_same _ _ _
  · rw [← List.cons_append] at hn
    have hne : c ≠ wT ls i := fun e => hn (List.mem_append.2 (.inr (List.mem_singleton.2 e)))
    rw [upd_other _ _ hne] at hs
    intro j hj e
    exact upd_mono (h.wal c hs (fun hm => hn (List.mem_append.2 (.inl hm))) j hj e)
  · by_cases e2 : j = i
    · rw [e2]; exact upd_same _ _ _
    · exact upd_mono (h.out j (by omega) e)
  · rw [h.len, List.length_append]; rfl
  · have := h.small; omega
  · have := h.cnt; have := cnT_le sn n; omega

/- Its rows. -/
def nats (Q : List Nat) : List Value := List.map (fun c : Nat => Value.int .i64 (c : Int)) Q
def Qu (B : Nat) (W : World) (g o k c : Nat) (Q : List Nat) : Prop :=
  ∃ ys, W.ownsRow B 3 1 (.slice (some ⟨g, 0, none⟩) (o + k) (o + c)) (o + k) ys ∧ ys.drop o = nats Q
theorem Qu.lt {B g o k c : Nat} {W : World} {Q : List Nat} (h : Qu B W g o k c Q) : g < W.heap.size := by
  obtain ⟨ys, h1, -⟩ := h
  exact own_lt h1
theorem Qu.ge {B g o k c : Nat} {W : World} {Q : List Nat} (h : Qu B W g o k c Q) : B ≤ g := by
  obtain ⟨ys, h1, -⟩ := h
  exact own_.row_ge h1 g rfl
theorem Qu.le {B g o k c : Nat} {W : World} {Q : List Nat} (h : Qu B W g o k c Q) : k ≤ c := by
  obtain ⟨ys, h1, -⟩ := h
  rcases h1.2 with ⟨h0, _⟩ | ⟨g', cap, cur, hv, _, _, hnc, _⟩
  · cases h0
  · injection hv with e1 e2 e3
    omega
theorem Qu.keep {B g o k c : Nat} {W W' : World} {Q : List Nat} {r : Option Nat} (h : Qu B W g o k c Q) (hg : W.grownBy W' r) (hr : r ≠ some g) : Qu B W' g o k c Q := by
  obtain ⟨ys, h1, h2⟩ := h
  refine ⟨ys, own_kept_at h1 hg (fun g' e => ?_), h2⟩
  have e : some g = some g' := e
  rw [← e]; exact hr
theorem Qu.drewN {B g o k c : Nat} {W : World} {Q : List Nat} (h : Qu B W g o k c Q) (j : Nat) : Qu B (W.drewN j) g o k c Q := by
  obtain ⟨ys, h1, h2⟩ := h
  exact ⟨ys, own_.own_drewN h1 j, h2⟩
theorem Qu.alloc {B g o k c : Nat} {W : World} {Q : List Nat} (h : Qu B W g o k c Q) (ob : Obj) : Qu B (W.alloc ob) g o k c Q := by
  obtain ⟨ys, h1, h2⟩ := h
  exact ⟨ys, h1.alloc ob, h2⟩
theorem Qu.head {B g o k c q : Nat} {W : World} {Q : List Nat} (h : Qu B W g o k c (q :: Q)) : W.cell? ⟨g, o, none⟩ = some (.int .i64 (q : Int)) ∧ 0 < k := by
  obtain ⟨ys, h1, h2⟩ := h
  have hl := h1.1
  have hd : (ys.drop o).length = k := by rw [List.length_drop]; omega
  rw [h2] at hd
  have hk : 0 < k := by rw [← hd]; simp [nats]
  refine ⟨?_, hk⟩
  rw [h1.cellAt o (by omega)]
  have : (ys.drop o)[0]? = some (.int .i64 (q : Int)) := by rw [h2]; rfl
  rw [List.getElem?_drop] at this
  exact this
theorem Qu.pop {B g o k c q : Nat} {W : World} {Q : List Nat} (h : Qu B W g o k c (q :: Q)) : Qu B W g (o + 1) (k - 1) (c - 1) Q := by
  have h0 := h.head.2
  have hle := h.le
  obtain ⟨ys, h1, h2⟩ := h
  refine ⟨ys, ?_, ?_⟩
  · rw [show o + 1 + (k - 1) = o + k by omega, show o + 1 + (c - 1) = o + c by omega]
    exact h1
  · rw [← List.drop_drop, h2]; rfl
/-- The two rows of the search and the ways. -/
def S3 (B n M : Nat) (ws : List Int) (W : World) (g1 g2 : Nat) (v : Value) (sn : Nat → Bool) (of : Nat → Int) : Prop :=
  W.ownsRow B 4 1 (.slice (some ⟨g1, 0, none⟩) n n) n (bls sn n) ∧ W.ownsRow B 3 1 (.slice (some ⟨g2, 0, none⟩) n n) n (its of n) ∧ W.ownsRow B 50 3 v M (cellsI ws) ∧ g1 ≠ g2 ∧ (∀ x, v.ownBlock = some x → x ≠ g1 ∧ x ≠ g2)
theorem S3.keep {B n M g1 g2 : Nat} {ws : List Int} {W W' : World} {v : Value} {sn : Nat → Bool} {of : Nat → Int} {r : Option Nat} (h : S3 B n M ws W g1 g2 v sn of) (hg : W.grownBy W' r) (h1 : r ≠ some g1) (h2 : r ≠ some g2) (h3 : ∀ x, v.ownBlock = some x → r ≠ some x) : S3 B n M ws W' g1 g2 v sn of := by
  obtain ⟨a, b, c, d, e⟩ := h
  refine ⟨own_kept_at a hg (fun g' e => ?_), own_kept_at b hg (fun g' e => ?_), own_kept_at c hg h3, d, e⟩
  · have e : some g1 = some g' := e
    rw [← e]; exact h1
  · have e : some g2 = some g' := e
    rw [← e]; exact h2
theorem S3.drewN {B n M g1 g2 : Nat} {ws : List Int} {W : World} {v : Value} {sn : Nat → Bool} {of : Nat → Int} (h : S3 B n M ws W g1 g2 v sn of) (j : Nat) : S3 B n M ws (W.drewN j) g1 g2 v sn of :=
  ⟨own_.own_drewN h.1 j, own_.own_drewN h.2.1 j, own_.own_drewN h.2.2.1 j, h.2.2.2⟩
theorem S3.alloc {B n M g1 g2 : Nat} {ws : List Int} {W : World} {v : Value} {sn : Nat → Bool} {of : Nat → Int} (h : S3 B n M ws W g1 g2 v sn of) (ob : Obj) : S3 B n M ws (W.alloc ob) g1 g2 v sn of :=
  ⟨h.1.alloc ob, h.2.1.alloc ob, h.2.2.1.alloc ob, h.2.2.2⟩
theorem S3.set {B n M g1 g2 t : Nat} {ws : List Int} {W : World} {v : Value} {sn : Nat → Bool} {of : Nat → Int} (h : S3 B n M ws W g1 g2 v sn of) (x : Int) :
    S3 B n M ws ((W.setCell ⟨g2, t, none⟩ (.int .i64 x)).setCell ⟨g1, t, none⟩ (.bool true)) g1 g2 v (upd sn t true) (upd of t x) := by
  obtain ⟨a, b, c, d, e⟩ := h
  refine ⟨?_, ?_, ?_, d, e⟩
  · have := ((own_away a d t (.int .i64 x)).stored t (.bool true)).1
    rw [bls_set] at this; exact this
  · have := (b.stored t (.int .i64 x)).1
    rw [its_set] at this
    exact own_away this (fun h => d h.symm) t (.bool true)
  · have c1 := own_kept_at c (grown_set (grown_refl W (some g2)) t (.int .i64 x)) (fun g' e1 e2 => by
      injection e2 with e2
      exact (e g' e1).2 e2.symm)
    exact own_kept_at c1 (grown_set (grown_refl _ (some g1)) t (.bool true)) (fun g' e1 e2 => by
      injection e2 with e2
      exact (e g' e1).1 e2.symm)
theorem Qu.set {B g g1 g2 o k c t : Nat} {W : World} {Q : List Nat} (h : Qu B W g o k c Q) (h1 : g ≠ g1) (h2 : g ≠ g2) (x : Int) : Qu B ((W.setCell ⟨g2, t, none⟩ (.int .i64 x)).setCell ⟨g1, t, none⟩ (.bool true)) g o k c Q :=
  (h.keep (grown_set (grown_refl W (some g2)) t (.int .i64 x)) (fun e => by injection e with e; exact h2 e.symm)).keep (grown_set (grown_refl _ (some g1)) t (.bool true)) (fun e => by injection e with e; exact h1 e.symm)
def lenV : Value → Nat
  | .slice _ k _ => k
  | _ => 0
theorem nats_app (Q : List Nat) (t : Nat) : nats (Q ++ [t]) = nats Q ++ [.int .i64 (t : Int)] := by unfold nats; rw [List.map_append]; rfl
end Go.Proofs.Ytndogafihaooiaa.lnkim
