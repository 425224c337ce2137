/- For every code of at most 65536 bytes (and trivially for a longer one) the law FnSectors returns true: whether a place is in a drawn sector or on its border is what the model says; a turned valid sector has the same area, which is at least 1, and the same places, its box holds them, its corners are on its border, and turned twice it is the sector; the sectors of a list that a place is in are those of the model. No condition of mine. -/
import Derived.Test.YtkndfklbonkbiaaInts
import Derived.BigQuiet
import Derived.Deep.QuietTactic
import Derived.Test.YtkndfklbonkbiaaPlcE
import Derived.WalkKit
import Derived.Test.YtkndfklbonkbiaaSecZ
import Derived.Test.YtkndfklbonkbiaaSecE
import Derived.Test.YtkndfklbonkbiaaRws
import Derived.Test.YtkndfklbonkbiaaSctR
import Derived.Test.YtkndfklbonkbiaaSctC
import Derived.Test.YtkndfklbonkbiaaIntC
import Derived.Laws.Small
import Derived.Deep.RegionHeld3
import Derived.Deep.CutRange
import Derived.Deep.CutBlock
import Derived.Test.YtkndfklbonkbiaaSctW
import Derived.Lib.QuietBelow
import Derived.Test.YtkndfklbonkbiaaDrawV17
import Derived.Test.YtkndfklbonkbiaaSctL
import Derived.Test.YtkndfklbonkbiaaSctE
import Derived.Test.YtkndfklbonkbiaaSctG
import Derived.Test.YtkndfklbonkbiaaSctX
import Derived.Test.YtkndfklbonkbiaaSctP
import Derived.Test.YtkndfklbonkbiaaRows
import Derived.Test.YtkndfklbonkbiaaSctQ
import Derived.Test.YtkndfklbonkbiaaCode
import Derived.ProofKit
import Derived.OpenShut
import Derived.ShutString
import Derived.ChangeOld
import Derived.Below

/- The laws' own vInts. -/
namespace Go.Proofs.Ytkndfklbonkbiaa.vint
open Go.RowKit Go.Proofs.Ytkndfklbonkbiaa.ints

set_option maxHeartbeats 400000 in
theorem vInts (xs : List Int) (A C : Option Addr) (n c d : Nat) (w : World) (hn : n ≤ 1048577) (h1 : RdI w w.heap.size A n xs) (h2 : RdI w w.heap.size C n xs) :
    Calls Try.prog 30 #[.slice A n c, .slice C n d] w fun e w' => e = .returned (.bool true) ∧ ∃ j, w' = w.drewN j := by
  have hs0 := int_ne_self (n : Int)
  go_enter Try.func30, Try.ntmps30
  go_wp2
  go_loopw [5] (fun i wr => ∃ k j : Nat, k ≤ n ∧ i = .int .i64 k ∧ wr = w.drewN j) (fun i _ => n - (intOf i).toNat)
  case atStart => exact ⟨0, 0, Nat.zero_le _, rfl, rfl⟩
  case round =>
    obtain ⟨k, j, hk, rfl, rfl⟩ := hrel
    by_cases hlt : k < n
    · obtain ⟨b1, o1, x, rfl, _, hx, e1⟩ := h1.at_ hlt
      obtain ⟨b2, o2, y, rfl, _, hy, e2⟩ := h2.at_ hlt
      obtain rfl : x = y := Option.some.inj (hx.symm.trans hy)
      have hlt2 : (k : Int) < (n : Int) := by omega
      have hs := int_ne_self x
      clear h1 h2 hx hy hs0
      go_wp2_with fail
      go_quiet (fail)
      go_wp2
      go_roundw
      case rel => exact ⟨k + 1, _, by omega, by go_num, by first | rfl | rw [World.drewN_drewN]⟩
      case measure => simp [intOf]; omega
    · clear h1 h2
      go_wp2
      go_ret
      exact ⟨rfl, j, rfl⟩
end Go.Proofs.Ytkndfklbonkbiaa.vint

/- The laws' vPlaces and vSector: two lists of places, two sectors that read alike. -/
namespace Go.Proofs.Ytkndfklbonkbiaa.vsec
open Go.RowKit Go.Proofs.Ytkndfklbonkbiaa.ats Go.Proofs.Ytkndfklbonkbiaa.ints Go.Proofs.Ytkndfklbonkbiaa.lst Go.Proofs.Ytkndfklbonkbiaa.plce

theorem int_ne_self (x : Int) : (x != x) = false := by simp
set_option maxHeartbeats 1000000 in
theorem vPlaces (zs : List Int) (A C : Option Addr) (n c d : Nat) (w : World) (hn : n ≤ 1048577) (h1 : RdZ 2 w w.heap.size A n zs) (h2 : RdZ 2 w w.heap.size C n zs) :
    Calls Try.prog 65 #[.slice A n c, .slice C n d] w fun e w' => e = .returned (.bool true) ∧ ∃ j, w' = w.drewN j := by
  have hnn := int_ne_self (n : Int)
  go_enter Try.func65, Try.ntmps65
  go_wp2
  go_loopw [5] (fun i wr => ∃ k j : Nat, k ≤ n ∧ i = .int .i64 k ∧ wr = w.drewN j) (fun i _ => n - (intOf i).toNat)
  case atStart => exact ⟨0, 0, Nat.zero_le _, rfl, rfl⟩
  case round =>
    obtain ⟨k, j, hk, rfl, rfl⟩ := hrel
    by_cases hlt : k < n
    · obtain ⟨b1, o1, rfl, l1, p0, p1⟩ := cellsE h1 hlt
      obtain ⟨b2, o2, rfl, l2, r0, r1⟩ := cellsE h2 hlt
      have hlt2 : (k : Int) < (n : Int) := by omega
      clear h1 h2
      generalize fld 2 zs k 0 = x0 at *
      have hs0 := int_ne_self x0
      have ht0 : (x0 == x0) = true := by simp
      generalize fld 2 zs k 1 = x1 at *
      have hs1 := int_ne_self x1
      have ht1 : (x1 == x1) = true := by simp
      go_wp2_with fail
      go_quiet (fail)
      go_wp2
      go_roundw
      case rel => exact ⟨k + 1, _, by omega, by go_num, by first | rfl | rw [World.drewN_drewN]⟩
      case measure => simp [intOf]; omega
    · clear h1 h2
      go_wp2
      go_ret
      exact ⟨rfl, j, rfl⟩
set_option maxHeartbeats 1000000 in
theorem vSector (d : Int) (zs : List Int) (A C : Option Addr) (n c q : Nat) (w : World) (hn : n ≤ 1048577) (h1 : RdZ 2 w w.heap.size A n zs) (h2 : RdZ 2 w w.heap.size C n zs) :
    Calls Try.prog 28 #[.agg #[.int .i64 d, .slice A n c], .agg #[.int .i64 d, .slice C n q]] w fun e w' => e = .returned (.bool true) ∧ Below w.heap.size w w' := by
  have n0 : (d == d) = true := by simp
  have X2 := Lib.hid (fun (W : World) (hb : Below w.heap.size w W) => vPlaces zs A C n c q W hn (h1.next hb) (h2.next hb))
  have B0 := Lib.hid ((newS 42 #[.int .i64 d, .slice A n c] w).alloc (.cells #[.int .i64 d, .slice C n q] 42))
  clear h1 h2
  go_enter Try.func28, Try.ntmps28
  go_wp2_with fail
  refine (X2.out _ B0.out.1).mono ?_
  rintro e V3 ⟨rfl, j, rfl⟩
  have HB := Lib.hid (aid.below_drewN B0.out.1 j)
  go_wp2_with fail
  go_ret
  exact ⟨rfl, HB.out⟩
end Go.Proofs.Ytkndfklbonkbiaa.vsec

/- Lists of sectors: read (an argument), owned (a copy), put, marked, opened. -/
namespace Go.Proofs.Ytkndfklbonkbiaa.slsa
open Go.RowKit Go.ChangeShapes Go.WideShapes Go.Deep Go.Proofs.Ytkndfklbonkbiaa.ints Go.Proofs.Ytkndfklbonkbiaa.lst Go.Proofs.Ytkndfklbonkbiaa.rws

/-- A sector: its Id and the coordinates of its corners, one after the other. -/
abbrev Se := Int × List Int
def nc (p : Se) : Nat := p.2.length / 2
/-- A list of sectors that is read; with q, the corners' capacities are at least their lengths. -/
def RdS (q : Bool) (W : World) (B : Nat) (A : Option Addr) (n : Nat) (ps : List Se) : Prop :=
  ps.length = n ∧ ∀ (k : Nat) (p : Se), ps[k]? = some p → ∃ b o A1 c1, A = some ⟨b, o, none⟩ ∧ b < B ∧ W.cell? ⟨b, o + k * 2, none⟩ = some (.int .i64 p.1) ∧ W.cell? ⟨b, o + k * 2 + 1, none⟩ = some (.slice A1 (nc p) c1) ∧ RdZ 2 W B A1 (nc p) p.2 ∧ nc p ≤ maxLen ∧ (q = true → nc p ≤ c1)
theorem RdS.below {q : Bool} {w w' : World} {B B' n : Nat} {A : Option Addr} {ps : List Se} (h : RdS q w B A n ps) (hb : Below B' w w') (hB : B ≤ B') : RdS q w' B A n ps :=
  ⟨h.1, fun k p hp => by
    obtain ⟨b, o, A1, c1, e, hlt, h0, h1, h2, h3, h4⟩ := h.2 k p hp
    exact ⟨b, o, A1, c1, e, hlt, (hb.cell (p := ⟨b, o + k * 2, none⟩) (Nat.lt_of_lt_of_le hlt hB)).trans h0, (hb.cell (p := ⟨b, o + k * 2 + 1, none⟩) (Nat.lt_of_lt_of_le hlt hB)).trans h1, h2.below hb hB, h3, h4⟩⟩
theorem RdZ_up {s : Nat} {w : World} {B B' n : Nat} {A : Option Addr} {zs : List Int} (h : RdZ s w B A n zs) (hB : B ≤ B') : RdZ s w B' A n zs :=
  ⟨h.1, fun hn => by
    obtain ⟨b, o, e, hlt, hc⟩ := h.2 hn
    exact ⟨b, o, e, Nat.lt_of_lt_of_le hlt hB, hc⟩⟩
theorem RdS.next {q : Bool} {w w' : World} {n : Nat} {A : Option Addr} {ps : List Se} (h : RdS q w w.heap.size A n ps) (hb : Below w.heap.size w w') : RdS q w' w'.heap.size A n ps :=
  ⟨h.1, fun k p hp => by
    obtain ⟨b, o, A1, c1, e, hlt, h0, h1, h2, h3, h4⟩ := (h.below hb (Nat.le_refl _)).2 k p hp
    exact ⟨b, o, A1, c1, e, Nat.lt_of_lt_of_le hlt hb.size, h0, h1, RdZ_up h2 hb.size, h3, h4⟩⟩
theorem RdS.len {q : Bool} {w : World} {B n : Nat} {A : Option Addr} {ps : List Se} (h : RdS q w B A n ps) : ps.length = n := h.1
theorem RdS.get {q : Bool} {w : World} {B n k : Nat} {A : Option Addr} {ps : List Se} (h : RdS q w B A n ps) (hk : k < n) : ∃ p, ps[k]? = some p := ⟨_, List.getElem?_eq_getElem (by rw [h.1]; exact hk)⟩

def qc (p : Se) (u : Value) : List Value := [.int .i64 p.1, u]
def qCells (ps : List Se) (us : List Value) : List Value := (List.zipWith qc ps us).flatten
/-- A list of sectors of the call's own, the corners in rows of their own. -/
def GQ (B : Nat) (W : World) (v : Value) (ps : List Se) : Prop :=
  ∃ us, us.length = ps.length ∧ W.ownsRow B 42 2 v ps.length (qCells ps us) ∧ Ins B 31 2 W us (ps.map fun p => cellsI p.2)
theorem q_app (p : Se) (u : Value) (ps : List Se) (us : List Value) : qCells (p :: ps) (u :: us) = qc p u ++ qCells ps us := rfl
theorem qCells_at : ∀ {ps : List Se} {us : List Value} {g : Nat} {p : Se} {u : Value}, us.length = ps.length → ps[g]? = some p → us[g]? = some u → ∀ j, j < 2 → (qCells ps us)[g * 2 + j]? = (qc p u)[j]?
  | [], us, g, q, u, _, h1, _, j, hj => by simp at h1
  | q0 :: G, [], g, q, u, hl, _, _, j, hj => by simp at hl
  | q0 :: G, u0 :: us, 0, q, u, hl, h1, h2, j, hj => by
    obtain rfl : q0 = q := by simpa using h1
    obtain rfl : u0 = u := by simpa using h2
    show (qc q0 u0 ++ qCells G us)[0 * 2 + j]? = _
    rw [Nat.zero_mul, Nat.zero_add, List.getElem?_append_left (by show j < 2; exact hj)]
  | q0 :: G, u0 :: us, g + 1, q, u, hl, h1, h2, j, hj => by
    show (qc q0 u0 ++ qCells G us)[(g + 1) * 2 + j]? = _
    have e : (qc q0 u0).length = 2 := rfl
    rw [List.getElem?_append_right (by rw [e]; omega), e, show (g + 1) * 2 + j - 2 = g * 2 + j by omega]
    exact qCells_at (by simpa using hl) (by simpa using h1) (by simpa using h2) j hj
theorem set_past {a b : List Value} {g j : Nat} {v : Value} (h : a.length = 2) : (a ++ b).set ((g + 1) * 2 + j) v = a ++ b.set (g * 2 + j) v := by
  rw [List.set_append, if_neg (by omega), h, show (g + 1) * 2 + j - 2 = g * 2 + j by omega]
theorem qCells_set : ∀ {ps : List Se} {us : List Value} {g : Nat}, us.length = ps.length → g < ps.length → ∀ (d : Int) (xs : List Int) (u : Value),
    qCells (ps.set g (d, xs)) (us.set g u) = ((qCells ps us).set (g * 2 + 0) (.int .i64 d)).set (g * 2 + 1) u
  | [], us, g, _, h, _, _, _ => by simp at h
  | p :: ps, [], g, h, _, _, _, _ => by simp at h
  | p :: ps, u0 :: us, 0, _, _, d, xs, u => rfl
  | p :: ps, u0 :: us, g + 1, hl, hg, d, xs, u => by
    rw [List.set_cons_succ, List.set_cons_succ, q_app, q_app, qCells_set (by simpa using hl) (by simpa using hg), set_past rfl, set_past rfl]
theorem qCells_length : ∀ {ps : List Se} {us : List Value}, us.length = ps.length → (qCells ps us).length = ps.length * 2
  | [], us, h => by simp [qCells]
  | q :: G, [], h => by simp at h
  | q :: G, u :: us, h => by
    have := qCells_length (ps := G) (us := us) (by simpa using h)
    rw [q_app, List.length_append, this, List.length_cons]
    show 2 + _ = _
    omega
theorem put_ {B m : Nat} {e : TypeId} {W : World} {us : List Value} {rs : List (List Value)} (h : Ins B e m W us rs) (i : Nat) {u : Value} {r : List Value} {n : Nat} (ho : W.ownsRow B e m u n r) (hne : ∀ (g : Nat) (j : Nat) (u' : Value), u.ownBlock = some g → us[j]? = some u' → u'.ownBlock ≠ some g) : Ins B e m W (us.set i u) (rs.set i r) := by
  refine ⟨by rw [List.length_set, List.length_set, h.1], fun j u1 r1 h1 h2 => ?_, fun j k u1 u2 g hjk h1 h2 hb => ?_⟩
  · rw [List.getElem?_set] at h1 h2
    have hl := h.1
    by_cases e : i = j
    · rw [if_pos e] at h1 h2
      split at h1
      · rw [if_pos (by omega)] at h2
        injection h1 with h1
        injection h2 with h2
        subst h1; subst h2
        exact ⟨n, ho⟩
      · cases h1
    · rw [if_neg e] at h1 h2
      exact h.2.1 j u1 r1 h1 h2
  · rw [List.getElem?_set] at h1 h2
    by_cases e : i = j
    · rw [if_pos e] at h1
      rw [if_neg (by omega)] at h2
      split at h1
      · injection h1 with h1
        subst h1
        exact hne g k u2 hb h2
      · cases h1
    · rw [if_neg e] at h1
      by_cases e3 : i = k
      · rw [if_pos e3] at h2
        split at h2
        · injection h2 with h2
          subst h2
          intro e4
          exact hne g j u1 e4 h1 hb
        · cases h2
      · rw [if_neg e3] at h2
        exact h.2.2 j k u1 u2 g hjk h1 h2 hb
section
variable {B : Nat} {W W' : World} {v : Value} {ps : List Se}
theorem GQ.below (h : GQ B W v ps) (hb : Below W.heap.size W W') : GQ B W' v ps := by
  obtain ⟨us, h1, h2, h3⟩ := h
  exact ⟨us, h1, own_.own_below h2 hb, h3.below hb⟩
theorem GQ.slice (h : GQ B W v ps) : ∃ A c, v = .slice A ps.length c := by
  obtain ⟨us, _, h2, _⟩ := h
  exact own_sliceZ h2
theorem capZ {w : World} {B e s n : Nat} {v : Value} {xs : List Value} (h : w.ownsRow B e s v n xs) : ∃ A c, v = .slice A n c ∧ n ≤ c := by
  rcases h.2 with ⟨rfl, h0⟩ | ⟨g, cap, cur, hv, hB, hh, hc, _⟩
  · subst h0; exact ⟨none, 0, rfl, Nat.le_refl _⟩
  · exact ⟨_, cap, hv, hc⟩
/-- Element g: its cells, its corners, and what a new Id and new corners in the same row make of the list. -/
theorem GQ.read (h : GQ B W v ps) {g : Nat} {p : Se} (hq : ps[g]? = some p) :
    ∃ ob oc A c, v = .slice (some ⟨ob, 0, none⟩) ps.length oc ∧ ob < W.heap.size ∧ B ≤ ob ∧ (∀ j, W.frozen? ⟨ob, j, none⟩ = false) ∧ W.cell? ⟨ob, g * 2, none⟩ = some (.int .i64 p.1) ∧ W.cell? ⟨ob, g * 2 + 1, none⟩ = some (.slice A (nc p) c) ∧ W.ownsRow B 31 2 (.slice A (nc p) c) (nc p) (cellsI p.2) ∧ nc p ≤ c ∧ p.2.length = nc p * 2 ∧
      (∀ gb, (Value.slice A (nc p) c).ownBlock = some gb → gb ≠ ob) ∧ (∀ (B' m : Nat) (x : Value) (r : List Value), W.ownsRow B' 3 1 x m r → ∀ gb, x.ownBlock = some gb → gb ≠ ob ∧ (Value.slice A (nc p) c).ownBlock ≠ some gb) ∧
      ∀ (d : Int) (ys : List Int) (n : Nat) (W' : World), (W.setCell ⟨ob, g * 2, none⟩ (.int .i64 d)).grownBy W' (Value.slice A (nc p) c).ownBlock →
        W'.ownsRow B 31 2 (.slice A (nc p) c) n (cellsI ys) → GQ B W' v (ps.set g (d, ys)) := by
  obtain ⟨us, hl, h1, h2⟩ := h
  have hg := (List.getElem?_eq_some_iff.1 hq).1
  obtain ⟨u, hu⟩ : ∃ u, us[g]? = some u := ⟨_, List.getElem?_eq_getElem (by rw [hl]; exact hg)⟩
  obtain ⟨m, ho⟩ := h2.2.1 g u _ hu (by rw [List.getElem?_map, hq]; rfl)
  have hm : p.2.length = m * 2 := by
    have := ho.1
    unfold cellsI at this
    rw [List.length_map] at this
    exact this
  obtain rfl : m = nc p := by unfold nc; omega
  obtain ⟨A, c, rfl, hc1⟩ := capZ ho
  rcases h1.2 with ⟨_, e0⟩ | ⟨ob, cap, cur, rfl, hB, hh, _⟩
  · omega
  · have hc := fun j hj x hx => h1.cells (g := ob) rfl (g * 2 + j) x ((qCells_at hl hq hu j hj).trans hx)
    have hap : ∀ gb, (Value.slice A (nc p) c).ownBlock = some gb → gb ≠ ob := fun gb e e2 => by
      subst e2
      exact rws.apart ho h1 (by decide) e rfl
    refine ⟨ob, cap, A, c, rfl, (h1.lt ob rfl).2, hB, fun j => h1.frozenAt j, ?_, ?_, ho, hc1, hm, hap, ?_, ?_⟩
    · have := hc 0 (by decide) _ rfl; rwa [Addr.add_lit, Nat.zero_add] at this
    · have := hc 1 (by decide) _ rfl; rwa [Addr.add_lit, Nat.zero_add] at this
    · intro B' m x r hx gb e
      exact ⟨fun e2 => by subst e2; exact rws.apart hx h1 (by decide) e rfl, fun e2 => rws.apart hx ho (by decide) e e2⟩
    · intro d ys n W' hgr ho'
      have s1 := (h1.stored (g * 2) (.int .i64 d)).1
      have hg4 := grown_set (grown_refl W (some ob)) (g * 2) (.int .i64 d)
      have h4 := h2.kept hg4 (fun g' i u' e hu' hb' => by
        injection e with e
        subst e
        obtain ⟨k1, r1, ho1⟩ := h2.row hu'
        exact rws.apart ho1 h1 (by decide) hb' rfl)
      have h5 := h4.set hu hgr ho' (.inl rfl)
      have e5 : us.set g (.slice A (nc p) c) = us := by
        have hx := List.getElem?_eq_some_iff.1 hu
        rw [← hx.2]
        exact List.set_getElem_self hx.1
      rw [e5] at h5
      refine ⟨us, by rw [List.length_set]; exact hl, ?_, ?_⟩
      · have e6 : qCells (ps.set g (d, ys)) us = (qCells ps us).set (g * 2) (.int .i64 d) := by
          have e7 := qCells_set hl hg d ys (.slice A (nc p) c)
          rw [e5] at e7
          rw [e7]
          refine List.ext_getElem? fun i => ?_
          rw [List.getElem?_set]
          split
          · rename_i e8
            subst e8
            rw [List.getElem?_set_ne (by omega), qCells_at hl hq hu 1 (by decide)]
            split
            · rfl
            · rename_i e9
              have := qCells_length hl
              rw [List.length_set] at e9
              omega
          · rfl
        rw [List.length_set, e6]
        exact s1.kept hgr (.inr (fun e => hap _ e.symm rfl))
      · rw [List.map_set]
        exact h5
/-- A fresh row of corners and an Id put at g. -/
theorem GQ.put (h : GQ B W v ps) {g : Nat} (hg : g < ps.length) {W1 : World} (hb : Below W.heap.size W W1) (hB : B ≤ W.heap.size) {u : Value} {n : Nat} {zs : List Int} (hu : W1.ownsRow W.heap.size 31 2 u n (cellsI zs)) (d : Int) :
    ∃ ob oc x y, v = .slice (some ⟨ob, 0, none⟩) ps.length oc ∧ B ≤ ob ∧ (∀ j, W1.frozen? ⟨ob, j, none⟩ = false) ∧ W1.cell? ⟨ob, g * 2, none⟩ = some x ∧ W1.cell? ⟨ob, g * 2 + 1, none⟩ = some y ∧
      GQ B ((W1.setCell ⟨ob, g * 2, none⟩ (.int .i64 d)).setCell ⟨ob, g * 2 + 1, none⟩ u) v (ps.set g (d, zs)) := by
  obtain ⟨us, hl, h1', h2'⟩ := h
  have h1 := own_.own_below h1' hb
  have h2 := h2'.below hb
  rcases h1.2 with ⟨_, e0⟩ | ⟨ob, cap, cur, rfl, hBo, hh, _⟩
  · omega
  · have hlen : g * 2 + 1 < (qCells ps us).length := by rw [qCells_length hl]; omega
    have hc0 := h1.cells (g := ob) rfl (g * 2) _ (List.getElem?_eq_getElem (show g * 2 < (qCells ps us).length by omega))
    have hc1 := h1.cells (g := ob) rfl (g * 2 + 1) _ (List.getElem?_eq_getElem hlen)
    rw [Addr.add_lit, Nat.zero_add] at hc0 hc1
    refine ⟨ob, cap, _, _, rfl, hBo, fun j => h1.frozenAt j, hc0, hc1, ?_⟩
    have s1 := (h1.stored (g * 2) (.int .i64 d)).1
    have s2 := (s1.stored (g * 2 + 1) u).1
    have hgr := grown_set (grown_set (grown_refl W1 (some ob)) (g * 2) (.int .i64 d)) (g * 2 + 1) u
    have h3 := put_ h2 g (own_.own_base hu hB) (fun gb j u' e1 e2 e3 => by
      have := (hu.lt gb e1).1
      have := h2'.lt e2 e3
      omega)
    refine ⟨us.set g u, by rw [List.length_set, List.length_set]; exact hl, ?_, ?_⟩
    · rw [List.length_set, qCells_set hl hg]
      exact s2
    · rw [List.map_set]
      refine h3.kept hgr fun gb j w0 e hw hg0 => ?_
      obtain ⟨k1, r1, ho1⟩ := h3.row hw
      exact rws.apart ho1 h1 (by decide) hg0 e
/-- An own list reads. -/
theorem GQ.rd (h : GQ B W v ps) {A : Option Addr} {n c : Nat} (hv : v = .slice A n c) : RdS true W W.heap.size A n ps := by
  obtain ⟨A', c', e⟩ := h.slice
  rw [hv] at e
  obtain ⟨rfl, rfl, rfl⟩ : A = A' ∧ n = ps.length ∧ c = c' := by injection e with e1 e2 e3; exact ⟨e1, e2, e3⟩
  refine ⟨rfl, fun k p hp => ?_⟩
  obtain ⟨ob, oc, A1, c1, e1, h1, -, -, h2, h3, h4, h5, h6, -⟩ := h.read hp
  rw [hv] at e1
  injection e1 with e1
  exact ⟨ob, 0, A1, c1, e1, h1, by rw [Nat.zero_add]; exact h2, by rw [Nat.zero_add]; exact h3, RdZ.of_own h4 h6, by
    rcases h4.2 with ⟨_, h0⟩ | ⟨g, cap, cur, hv2, _, _, ha, hb, _⟩
    · rw [h0]; exact Nat.zero_le _
    · injection hv2 with e5 e6 e7
      omega, fun _ => h5⟩
end
end Go.Proofs.Ytkndfklbonkbiaa.slsa

/- Lists of sectors: what is valid, the Ids, where a place is in (plain mathematics); an element as it reads in later worlds. -/
namespace Go.Proofs.Ytkndfklbonkbiaa.slsr
open Go.RowKit Go.Proofs.Ytkndfklbonkbiaa.lst Go.Proofs.Ytkndfklbonkbiaa.pos Go.Proofs.Ytkndfklbonkbiaa.sct Go.Proofs.Ytkndfklbonkbiaa.sctj Go.Proofs.Ytkndfklbonkbiaa.sctr Go.Proofs.Ytkndfklbonkbiaa.slsa

theorem RdS.at_ {q : Bool} {w : World} {n k : Nat} {A : Option Addr} {ps : List Se} {p : Se} (h : RdS q w w.heap.size A n ps) (hp : ps[k]? = some p) : ∃ b o A1 c1, A = some ⟨b, o, none⟩ ∧ (q = true → nc p ≤ c1) ∧
    ∀ W, Below w.heap.size w W → W.cell? ⟨b, o + k * 2, none⟩ = some (.int .i64 p.1) ∧ W.cell? ⟨b, o + k * 2 + 1, none⟩ = some (.slice A1 (nc p) c1) ∧ RdZ 2 W W.heap.size A1 (nc p) p.2 := by
  obtain ⟨b, o, A1, c1, e, hlt, h0, h1, h2, h3, h4⟩ := h.2 k p hp
  exact ⟨b, o, A1, c1, e, h4, fun W hb => ⟨(hb.cell (p := ⟨b, o + k * 2, none⟩) hlt).trans h0, (hb.cell (p := ⟨b, o + k * 2 + 1, none⟩) hlt).trans h1, h2.next hb⟩⟩

def seP (p : Se) : Bool := seV p.1 p.2 (nc p)
def gt (ps : List Se) (k : Nat) : Se := ps.getD k (0, [])
theorem gt_of {ps : List Se} {k : Nat} {p : Se} (h : ps[k]? = some p) : gt ps k = p := by unfold gt; rw [List.getD_eq_getElem?_getD, h]; rfl
def alS (ps : List Se) : Nat → Bool
  | 0 => true
  | k + 1 => alS ps k && seP (gt ps k)
theorem alS_step {ps : List Se} {k : Nat} {p : Se} (h : ps[k]? = some p) : alS ps (k + 1) = (alS ps k && seP p) := by rw [alS, gt_of h]
theorem alS_cut {ps : List Se} {n m : Nat} (h : alS ps n = false) (hm : n ≤ m) : alS ps m = false := by
  induction hm with
  | refl => exact h
  | step _ ih => rw [alS, ih]; rfl
theorem alS_all {ps : List Se} {n : Nat} (h : alS ps n = true) {k : Nat} (hk : k < n) : seP (gt ps k) = true := by
  cases hq : seP (gt ps k)
  · have := alS_cut (ps := ps) (n := k + 1) (m := n) (by rw [alS, hq, Bool.and_false]) hk
    rw [this] at h
    cases h
  · rfl
def ascB (xs : List Int) (n : Nat) : Bool := decide (∀ k, k < n → 0 < k → xs.getD (k - 1) 0 < xs.getD k 0)
theorem asc_no {xs : List Int} {n k : Nat} (hk : k < n) (h0 : 0 < k) (h : ¬ xs.getD (k - 1) 0 < xs.getD k 0) : ascB xs n = false := decide_eq_false (fun hh => h (hh k hk h0))
def idL (ps : List Se) : Nat → List Int
  | 0 => []
  | k + 1 => idL ps k ++ [(gt ps k).1]
theorem idL_length (ps : List Se) : ∀ n, (idL ps n).length = n
  | 0 => rfl
  | n + 1 => by rw [idL, List.length_append, idL_length ps n]; rfl
theorem idL_at (ps : List Se) : ∀ (n j : Nat), j < n → (idL ps n).getD j 0 = (gt ps j).1
  | 0, j, h => by omega
  | n + 1, j, h => by
    rw [idL, List.getD_eq_getElem?_getD]
    rcases Nat.lt_or_ge j n with h1 | h1
    · rw [List.getElem?_append_left (by rw [idL_length]; exact h1), ← List.getD_eq_getElem?_getD, idL_at ps n j h1]
    · obtain rfl : j = n := by omega
      rw [List.getElem?_append_right (by rw [idL_length]; exact Nat.le_refl _), idL_length, Nat.sub_self]
      rfl
def lsB (ps : List Se) (n : Nat) : Bool := decide (n ≤ 6) && (alS ps n && ascB (idL ps n) n)
theorem ls_long {ps : List Se} {n : Nat} (h : ¬ n ≤ 6) : lsB ps n = false := by unfold lsB; rw [decide_eq_false h]; rfl
theorem ls_no1 {ps : List Se} {n k : Nat} (h : alS ps k = false) (hk : k ≤ n) : lsB ps n = false := by unfold lsB; rw [alS_cut h hk, Bool.false_and, Bool.and_false]
theorem ls_no2 {ps : List Se} {n k : Nat} (hk : k < n) (h0 : 0 < k) (h : ¬ (gt ps (k - 1)).1 < (gt ps k).1) : lsB ps n = false := by
  unfold lsB
  rw [asc_no hk h0 (by rw [idL_at ps n _ (by omega), idL_at ps n _ hk]; exact h), Bool.and_false, Bool.and_false]
theorem ls_yes {ps : List Se} {n : Nat} (hn : n ≤ 6) (h : alS ps n = true) (h2 : ∀ k, k < n → 0 < k → (gt ps (k - 1)).1 < (gt ps k).1) : lsB ps n = true := by
  unfold lsB ascB
  rw [decide_eq_true hn, h, decide_eq_true (fun k hk h0 => by rw [idL_at ps n _ (by omega), idL_at ps n _ hk]; exact h2 k hk h0)]
  rfl
theorem ls_parts {ps : List Se} {n : Nat} (h : lsB ps n = true) : n ≤ 6 ∧ alS ps n = true := by
  unfold lsB at h
  rw [Bool.and_eq_true, Bool.and_eq_true] at h
  exact ⟨of_decide_eq_true h.1, h.2.1⟩
def satB (ps : List Se) (n : Nat) (px py : Int) : Bool := lsB ps n && pB px py
def inS (p : Se) (px py : Int) : Bool := inB (cX p.2) (cY p.2) (nc p) px py
def inL (ps : List Se) (px py : Int) : Nat → List Int
  | 0 => []
  | k + 1 => if inS (gt ps k) px py then inL ps px py k ++ [(gt ps k).1] else inL ps px py k
theorem inL_yes {ps : List Se} {px py : Int} {k : Nat} {p : Se} (hp : ps[k]? = some p) (h : inS p px py = true) : inL ps px py (k + 1) = inL ps px py k ++ [p.1] := by rw [inL, gt_of hp, if_pos h]
theorem inL_not {ps : List Se} {px py : Int} {k : Nat} {p : Se} (hp : ps[k]? = some p) (h : inS p px py = false) : inL ps px py (k + 1) = inL ps px py k := by rw [inL, gt_of hp, h]; rfl
theorem inL_length (ps : List Se) (px py : Int) : ∀ k, (inL ps px py k).length ≤ k
  | 0 => Nat.le_refl _
  | k + 1 => by
    have := inL_length ps px py k
    rw [inL]
    split
    · rw [List.length_append, List.length_singleton]; omega
    · omega
def satV (ps : List Se) (n : Nat) (px py : Int) : List Int := if satB ps n px py then inL ps px py n else []
theorem satV_no {ps : List Se} {n : Nat} {px py : Int} (h : satB ps n px py = false) : satV ps n px py = [] := by unfold satV; rw [h]; rfl
theorem satV_yes {ps : List Se} {n : Nat} {px py : Int} (h : satB ps n px py = true) : satV ps n px py = inL ps px py n := by unfold satV; rw [h]; rfl
theorem satV_le (ps : List Se) (n : Nat) (px py : Int) : (satV ps n px py).length ≤ n := by
  unfold satV
  split
  · exact inL_length ..
  · exact Nat.zero_le _
theorem sat_no1 {ps : List Se} {n : Nat} {px py : Int} (h : lsB ps n = false) : satB ps n px py = false := by unfold satB; rw [h]; rfl
theorem sat_no2 {ps : List Se} {n : Nat} {px py : Int} (h : pB px py = false) : satB ps n px py = false := by unfold satB; rw [h, Bool.and_false]
theorem sat_yes {ps : List Se} {n : Nat} {px py : Int} (h : lsB ps n = true) (h2 : pB px py = true) : satB ps n px py = true := by unfold satB; rw [h, h2]; rfl
end Go.Proofs.Ytkndfklbonkbiaa.slsr

/- impl's lists of sectors: areAll at sectors, doAscend, areSectors, SectorsAt. -/
namespace Go.Proofs.Ytkndfklbonkbiaa.slsc
open Go.RowKit Go.Proofs.Ytkndfklbonkbiaa.ints Go.Proofs.Ytkndfklbonkbiaa.lst Go.Proofs.Ytkndfklbonkbiaa.in_ Go.Proofs.Ytkndfklbonkbiaa.ats Go.Proofs.Ytkndfklbonkbiaa.pos Go.Proofs.Ytkndfklbonkbiaa.sct Go.Proofs.Ytkndfklbonkbiaa.sctj Go.Proofs.Ytkndfklbonkbiaa.sctb Go.Proofs.Ytkndfklbonkbiaa.sctr Go.Proofs.Ytkndfklbonkbiaa.slsa Go.Proofs.Ytkndfklbonkbiaa.slsr

set_option maxRecDepth 100000 in
set_option maxHeartbeats 2000000 in
theorem areAllSector (ps : List Se) (A : Option Addr) (n c : Nat) (w : World) (hn : n ≤ 1048577) (hs : ∀ (k : Nat) (p : Se), ps[k]? = some p → nc p ≤ 1048576) (h1 : RdS true w w.heap.size A n ps) :
    Calls Try.prog 88 #[.func (.func 20) #[] #[], .slice A n c] w fun e w' => e = .returned (.bool (alS ps n)) ∧ Below w.heap.size w w' := by
  have HR := Lib.hid h1
  have HS0 := Lib.hid hs
  clear h1 hs
  go_enter Try.func88, Try.ntmps88
  go_wp2_with fail
  go_loopw [9] (fun i wr => ∃ k : Nat, k ≤ n ∧ i = .int .i64 k ∧ Below w.heap.size w wr ∧ alS ps k = true) (fun i _ => n - (intOf i).toNat)
  case atStart => exact ⟨0, Nat.zero_le _, rfl, Below.refl _ _, rfl⟩
  case round =>
    obtain ⟨k, hk, rfl, hb, hon⟩ := hrel
    by_cases hlt : k < n
    · have hlt2 : (k : Int) < (n : Int) := by omega
      obtain ⟨p, hp⟩ := HR.out.get hlt
      obtain ⟨b1, o1, A1, c1, rfl, hcap, hat⟩ := RdS.at_ HR.out hp
      obtain ⟨p0, p1, -⟩ := hat wr hb
      have hm := HS0.out k p hp
      have X1 := Lib.hid (fun (W : World) (hb : Below w.heap.size w W) => show Calls Try.prog 20 #[.agg #[.int .i64 p.1, .slice A1 (nc p) c1]] W (fun e w' => e = .returned (.bool (seP p)) ∧ Below W.heap.size W w') from sctc.isValidSector p.1 p.2 A1 (nc p) c1 W (hcap rfl) hm (hat W hb).2.2)
      have HS := Lib.hid (alS_step hp)
      have HX := Lib.hid (fun (h : alS ps (k + 1) = false) => alS_cut h (show k + 1 ≤ n by omega))
      rw [hon, Bool.true_and] at HS
      have HB := Lib.hid (hb.alloc hb.size (.cells #[.int .i64 p.1, .slice A1 (nc p) c1] 42))
      clear hb hon hp hcap hat
      generalize seP p = pb at *
      generalize p.1 = d at *
      generalize nc p = m at *
      cases pb
      · have HN := Lib.hid (HX.out HS.out)
        clear HX HS
        go_wp2_with fail
        refine (X1.out _ HB.out).mono ?_
        rintro e w2 ⟨rfl, hb2⟩
        have HBB := Lib.hid (HB.out.trans (hb2.mono HB.out.size))
        clear hb2
        go_wp2_with fail
        go_ret
        exact ⟨by rw [HN.out]; rfl, HBB.out⟩
      · have HT := Lib.hid HS.out
        clear HX HS
        go_wp2_with fail
        refine (X1.out _ HB.out).mono ?_
        rintro e w2 ⟨rfl, hb2⟩
        have HBB := Lib.hid (HB.out.trans (hb2.mono HB.out.size))
        clear hb2 p0 p1
        go_wp2_with fail
        go_roundw
        case rel => exact ⟨k + 1, by omega, by go_num, HBB.out, HT.out⟩
        case measure => simp [intOf]; omega
    · obtain rfl : k = n := by omega
      have HO := Lib.hid hon
      have HB := Lib.hid hb
      clear hb hon
      go_wp2_with fail
      go_ret
      exact ⟨by rw [HO.out]; rfl, HB.out⟩

set_option maxRecDepth 100000 in
set_option maxHeartbeats 1000000 in
theorem doAscend (xs : List Int) (A : Option Addr) (n c : Nat) (w : World) (hn : n ≤ 1048577) (h1 : RdI w w.heap.size A n xs) :
    Calls Try.prog 89 #[.slice A n c] w fun e w' => e = .returned (.bool (ascB xs n)) ∧ Below w.heap.size w w' := by
  have HR := Lib.hid h1
  have HNO := Lib.hid (fun k (hk : k < n) (h0 : 0 < k) h => asc_no (xs := xs) hk h0 h)
  have HYE := Lib.hid (fun (h : ∀ k, k < n → 0 < k → xs.getD (k - 1) 0 < xs.getD k 0) => show ascB xs n = true from decide_eq_true h)
  clear h1
  go_enter Try.func89, Try.ntmps89
  go_wp2_with fail
  go_loopw [3] (fun i wr => ∃ k : Nat, 1 ≤ k ∧ (k ≤ n ∨ k = 1) ∧ i = .int .i64 k ∧ Below w.heap.size w wr ∧ ∀ j, j < k → j < n → 0 < j → xs.getD (j - 1) 0 < xs.getD j 0) (fun i _ => n - (intOf i).toNat)
  case atStart => exact ⟨1, Nat.le_refl _, Or.inr rfl, rfl, Below.refl _ _, fun j h1 h2 h3 => by omega⟩
  case round =>
    obtain ⟨k, hk1, hk, rfl, hb, hok⟩ := hrel
    by_cases hlt : k < n
    · have hlt2 : (k : Int) < (n : Int) := by omega
      obtain ⟨p, hp⟩ : ∃ p, p + 1 = k := ⟨k - 1, by omega⟩
      obtain ⟨b1, o1, u, rfl, l1, hx, p0⟩ := (HR.out.below hb (Nat.le_refl _)).at_ hlt
      obtain ⟨b2, o2, v, eA, l2, hy, q0⟩ := (HR.out.below hb (Nat.le_refl _)).at_ (show p < n by omega)
      obtain ⟨rfl, rfl⟩ : b1 = b2 ∧ o1 = o2 := by injection eA with e; injection e with e1 e2; exact ⟨e1, e2⟩
      have hxd : xs.getD k 0 = u := by rw [List.getD_eq_getElem?_getD, hx]; rfl
      have hyd : xs.getD (k - 1) 0 = v := by rw [show k - 1 = p by omega, List.getD_eq_getElem?_getD, hy]; rfl
      have hp0 : (0 : Int) ≤ (p : Int) := Int.natCast_nonneg _
      have hpN : (p : Int) < (n : Int) := by omega
      have e1 : IntKind.i64.wrap ((k : Int) - 1) = (p : Int) := by rw [IntWalk.i64_in _ (by omega)]; omega
      have HB := Lib.hid hb
      have HNk := Lib.hid (HNO.out k hlt hk1)
      have HOK := Lib.hid hok
      rw [hxd, hyd] at HNk
      have HXY := Lib.hid (And.intro hxd hyd)
      clear hb hok hx hy hxd hyd hp eA
      by_cases hlt3 : v < u
      · have hge : ¬ u ≤ v := by omega
        have HT := Lib.hid (show ∀ j, j < k + 1 → j < n → 0 < j → xs.getD (j - 1) 0 < xs.getD j 0 from fun j h1 h2 h3 => by
          rcases Nat.lt_or_ge j k with h | h
          · exact HOK.out j h h2 h3
          · obtain rfl : j = k := by omega
            rw [HXY.out.1, HXY.out.2]; exact hlt3)
        clear HOK HXY HNk
        go_wp2_with fail
        go_quiet (fail)
        go_wp2_with fail
        go_roundw
        case rel => exact ⟨k + 1, by omega, Or.inl (by omega), by go_num, aid.below_drewN HB.out _, HT.out⟩
        case measure => simp [intOf]; omega
      · have hge : u ≤ v := by omega
        have HN := Lib.hid (HNk.out (by omega))
        clear HOK HXY HNk
        go_wp2_with fail
        go_quiet (fail)
        go_wp2_with fail
        go_ret
        exact ⟨by rw [HN.out]; rfl, aid.below_drewN HB.out _⟩
    · have HE := Lib.hid (HYE.out (fun j h1 h2 => hok j (by omega) h1 h2))
      have hge : (n : Int) ≤ (k : Int) := by omega
      clear hok
      go_wp2_with fail
      go_ret
      exact ⟨by rw [HE.out]; rfl, hb⟩

theorem own_app {w : World} {B e : Nat} {v : Value} {L : List Int} {x : Int} (h : w.ownsRow B e 1 v (L.length + 1) (cellsI L ++ [.int .i64 x])) : w.ownsRow B e 1 v (L ++ [x]).length (cellsI (L ++ [x])) := own_growI h
set_option maxRecDepth 100000 in
set_option maxHeartbeats 4000000 in
theorem areSectors (ps : List Se) (A : Option Addr) (n c : Nat) (w : World) (hn : n ≤ 1048576) (hs : ∀ (k : Nat) (p : Se), ps[k]? = some p → nc p ≤ 1048576) (h1 : RdS true w w.heap.size A n ps) :
    Calls Try.prog 48 #[.slice A n c] w fun e w' => e = .returned (.bool (lsB ps n)) ∧ Below w.heap.size w w' := by
  have HA := Lib.hid (areAllSector ps A n c w (by omega) hs h1)
  have HR := Lib.hid h1
  have HE := Lib.hid (show lsB ps n = (decide (n ≤ 6) && (alS ps n && ascB (idL ps n) n)) from rfl)
  obtain ⟨i0, hi, hz0, hz1, hz2⟩ := info_parts infoI
  clear h1 hs
  by_cases h6 : n ≤ 6
  case neg =>
    have g6 : ¬ (n : Int) ≤ 6 := by omega
    rw [decide_eq_false h6] at HE
    clear HA HR
    go_enter Try.func48, Try.ntmps48
    go_wp2_with fail
    go_ret
    exact ⟨by rw [HE.out]; rfl, Below.refl _ _⟩
  have g6 : (n : Int) ≤ 6 := by omega
  rw [decide_eq_true h6, Bool.true_and] at HE
  cases hal : alS ps n
  · rw [hal] at HA HE
    clear hal HR
    go_enter Try.func48, Try.ntmps48
    go_wp2_with fail
    refine HA.out.mono ?_
    rintro e w1 ⟨rfl, hb⟩
    go_wp2_with fail
    go_ret
    exact ⟨by rw [HE.out]; rfl, hb⟩
  rw [hal] at HA
  rw [hal, Bool.true_and] at HE
  clear hal
  go_enter Try.func48, Try.ntmps48
  go_wp2_with fail
  refine HA.out.mono ?_
  rintro e w1 ⟨rfl, hb1⟩
  have HB1 := Lib.hid hb1
  clear hb1 HA
  go_wp2_with fail
  go_loopw [3, 16] (fun q i wr => ∃ k : Nat, k ≤ n ∧ i = .int .i64 k ∧ wr.ownsRow w1.heap.size 3 1 q (idL ps k).length (cellsI (idL ps k)) ∧ Below w1.heap.size w1 wr) (fun _ i _ => n - (intOf i).toNat)
  case atStart => exact ⟨0, Nat.zero_le _, rfl, World.ownsRow_nil .., Below.refl _ _⟩
  case round =>
    obtain ⟨k, hk, rfl, hO, hb⟩ := hrel
    by_cases hlt : k < n
    · have hlt2 : (k : Int) < (n : Int) := by omega
      obtain ⟨p, hp⟩ := HR.out.get hlt
      obtain ⟨b1, o1, A1, c1, rfl, -, hat⟩ := RdS.at_ HR.out hp
      obtain ⟨p0, p1, -⟩ := hat wr (HB1.out.trans (hb.mono HB1.out.size))
      have hlen := idL_length ps k
      have HST := Lib.hid (show idL ps (k + 1) = idL ps k ++ [p.1] by rw [idL, gt_of hp])
      have SA := Lib.hid (newS 42 #[.int .i64 p.1, .slice A1 (nc p) c1] wr)
      have HO := Lib.hid (hO.alloc (.cells #[.int .i64 p.1, .slice A1 (nc p) c1] 42))
      have HB := Lib.hid (hb.alloc hb.size (.cells #[.int .i64 p.1, .slice A1 (nc p) c1] 42))
      clear hO hb hat hp
      generalize idL ps k = L at *
      generalize p.1 = d at *
      generalize nc p = m at *
      go_upto_region 7 with fail
      clear p0 p1
      generalize wr.alloc (.cells #[.int .i64 d, .slice A1 m c1] 42) = WA at *
      have d0 : WA.cell? ⟨wr.heap.size, 0, none⟩ = some (.int .i64 d) := SA.out.cell 0
      have hsz := HB.out.size
      clear SA
      go_wp2_with (at_builtin; (refine wpList_append_own _ rfl (.tmp 20) (.tmp 23) 26 rfl w1.heap.size 3 i0 (.int .i64 0) 1 8 Try.underlying26 hi hz0 hz1 hz2 rfl (by decide) _ L.length (cellsI L) rfl (HO.out.alloc _) ⟨WA.heap.size, 0, none⟩ 1 1 [.int .i64 d] rfl rfl (cell_one_new _ _ _) (own_.one_cell _ rfl) (by unfold maxLen; omega) (by omega) (by simp; omega) ?_; intro v' w3 hown' hgrow hnil))
      have HB' := Lib.hid (own_.below_append HB.out HO.out hsz hgrow)
      have HO' := Lib.hid (own_app hown')
      clear hown' hgrow hnil d0
      go_roundw
      case rel => exact ⟨k + 1, by omega, by go_num, by rw [HST.out]; exact HO'.out, HB'.out⟩
      case measure => simp [intOf]; omega
    · obtain rfl : k = n := by omega
      have HL := Lib.hid (idL_length ps k)
      rw [HL.out] at hO
      obtain ⟨A5, c5, rfl⟩ := own_sliceZ hO
      have HD := Lib.hid (doAscend (idL ps k) A5 k c5 wr (by omega) (intc.rd_of_own hO HL.out))
      have HB := Lib.hid (HB1.out.trans (hb.mono HB1.out.size))
      clear hO hb HR
      go_wp2_with fail
      refine HD.out.mono ?_
      rintro e w2 ⟨rfl, hb2⟩
      have HBB := Lib.hid (HB.out.trans (hb2.mono HB.out.size))
      clear hb2
      go_wp2_with fail
      go_ret
      exact ⟨by rw [HE.out]; rfl, HBB.out⟩

set_option maxRecDepth 100000 in
set_option maxHeartbeats 4000000 in
theorem sectorsAt (ps : List Se) (px py : Int) (A : Option Addr) (n c : Nat) (w : World) (hn : n ≤ 1048576) (hs : ∀ (k : Nat) (p : Se), ps[k]? = some p → nc p ≤ 1048576) (h1 : RdS true w w.heap.size A n ps) :
    Calls Try.prog 10 #[.slice A n c, .agg #[.int .i64 px, .int .i64 py]] w fun e w' => ∃ v, e = .returned (.tuple #[v, .bool (satB ps n px py)]) ∧ w'.ownsRow w.heap.size 3 1 v (satV ps n px py).length (cellsI (satV ps n px py)) ∧ Below w.heap.size w w' := by
  have S0 := Lib.hid (newS 31 #[.int .i64 px, .int .i64 py] w)
  have T0 := Lib.hid (fun (W : World) (hb : Below w.heap.size w W) => areSectors ps A n c W hn hs (h1.next hb))
  have T1 := Lib.hid (fun W => posj.isValidPlace px py W)
  cases hq0 : lsB ps n
  · rw [hq0] at T0
    have HE := Lib.hid (sat_no1 (px := px) (py := py) hq0)
    clear h1 hs hq0
    go_enter Try.func10, Try.ntmps10
    go_wp2_with fail
    generalize w.alloc (.cells #[.int .i64 px, .int .i64 py] 31) = W0 at *
    refine (T0.out W0 S0.out.1).mono ?_
    rintro e V0 ⟨rfl, hb⟩
    have BX := Lib.hid (S0.out.1.trans (hb.mono S0.out.1.size))
    clear hb
    have HV := Lib.hid (satV_no HE.out)
    go_wp2_with fail
    go_ret2
    exact ⟨_, by rw [HE.out]; rfl, by rw [HV.out]; exact World.ownsRow_nil .., BX.out⟩
  rw [hq0] at T0
  cases hq1 : pB px py
  · rw [hq1] at T1
    have HE := Lib.hid (sat_no2 (ps := ps) (n := n) hq1)
    clear h1 hs hq0 hq1
    go_enter Try.func10, Try.ntmps10
    go_wp2_with fail
    generalize w.alloc (.cells #[.int .i64 px, .int .i64 py] 31) = W0 at *
    refine (T0.out W0 S0.out.1).mono ?_
    rintro e V0 ⟨rfl, hb⟩
    have S1 := Lib.hid (S0.out.old hb)
    clear hb
    have c0 : V0.cell? ⟨w.heap.size, 0, none⟩ = some (.int .i64 px) := S1.out.cell 0
    have c1 : V0.cell? ⟨w.heap.size, 1, none⟩ = some (.int .i64 py) := S1.out.cell 1
    go_wp2_with fail
    clear c0 c1
    refine (T1.out V0).mono ?_
    rintro e V1 ⟨rfl, hb⟩
    have BX := Lib.hid (S1.out.1.trans (hb.mono S1.out.1.size))
    clear hb
    have HV := Lib.hid (satV_no HE.out)
    go_wp2_with fail
    go_ret2
    exact ⟨_, by rw [HE.out]; rfl, by rw [HV.out]; exact World.ownsRow_nil .., BX.out⟩
  rw [hq1] at T1
  have HE := Lib.hid (sat_yes hq0 hq1)
  have HV := Lib.hid (satV_yes HE.out)
  have HP := Lib.hid hq1
  have HAL := Lib.hid (ls_parts hq0)
  have HR := Lib.hid h1
  have HS0 := Lib.hid hs
  obtain ⟨i0, hi, hz0, hz1, hz2⟩ := info_parts infoI
  clear h1 hs hq0 hq1
  go_enter Try.func10, Try.ntmps10
  go_wp2_with fail
  generalize w.alloc (.cells #[.int .i64 px, .int .i64 py] 31) = W0 at *
  refine (T0.out W0 S0.out.1).mono ?_
  rintro e V0 ⟨rfl, hb⟩
  have S1 := Lib.hid (S0.out.old hb)
  clear hb S0
  have c0 : V0.cell? ⟨w.heap.size, 0, none⟩ = some (.int .i64 px) := S1.out.cell 0
  have c1 : V0.cell? ⟨w.heap.size, 1, none⟩ = some (.int .i64 py) := S1.out.cell 1
  go_wp2_with fail
  clear c0 c1
  refine (T1.out V0).mono ?_
  rintro e V1 ⟨rfl, hb⟩
  have S2 := Lib.hid (S1.out.old hb)
  clear hb S1 T0 T1
  go_wp2_with fail
  go_loopw [6, 19] (fun q i wr => ∃ k : Nat, k ≤ n ∧ i = .int .i64 k ∧ wr.ownsRow V1.heap.size 3 1 q (inL ps px py k).length (cellsI (inL ps px py k)) ∧ Below V1.heap.size V1 wr) (fun _ i _ => n - (intOf i).toNat)
  case atStart => exact ⟨0, Nat.zero_le _, rfl, World.ownsRow_nil .., Below.refl _ _⟩
  case round =>
    obtain ⟨k, hk, rfl, hO, hb⟩ := hrel
    by_cases hlt : k < n
    · have hlt2 : (k : Int) < (n : Int) := by omega
      obtain ⟨p, hp⟩ := HR.out.get hlt
      obtain ⟨b1, o1, A1, c1, rfl, -, hat⟩ := RdS.at_ HR.out hp
      obtain ⟨p0, p1, -⟩ := hat wr (S2.out.1.trans (hb.mono S2.out.1.size))
      have hlen := inL_length ps px py k
      have hmm := HS0.out k p hp
      have hsv : seV p.1 p.2 (nc p) = true := by have := alS_all HAL.out.2 hlt; rw [gt_of hp] at this; exact this
      obtain ⟨-, gp⟩ := se_corner hsv
      have D := Lib.hid (fun (W : World) (hb : Below w.heap.size w W) => sctc.whereIs p.2 px py A1 (nc p) c1 W hmm gp HP.out (hat W hb).2.2)
      have HY := Lib.hid (fun h => inL_yes (px := px) (py := py) hp h)
      have HN := Lib.hid (fun h => inL_not (px := px) (py := py) hp h)
      have HW := Lib.hid (wh_in (cX p.2) (cY p.2) (nc p) px py)
      rw [show inB (cX p.2) (cY p.2) (nc p) px py = inS p px py from rfl] at HW
      have SA := Lib.hid (newS 42 #[.int .i64 p.1, .slice A1 (nc p) c1] wr)
      have SB := Lib.hid ((S2.out.old hb).alloc (.cells #[.int .i64 p.1, .slice A1 (nc p) c1] 42))
      have HO := Lib.hid (hO.alloc (.cells #[.int .i64 p.1, .slice A1 (nc p) c1] 42))
      have HB := Lib.hid (hb.alloc hb.size (.cells #[.int .i64 p.1, .slice A1 (nc p) c1] 42))
      clear hO hb hat hp hmm hsv gp
      generalize whV (cX p.2) (cY p.2) (nc p) px py = x at *
      generalize inS p px py = pb at *
      generalize hLk : inL ps px py k = L at *
      generalize p.1 = d at *
      generalize nc p = m at *
      clear hLk
      go_upto_region 7 with fail
      clear p0 p1
      generalize wr.alloc (.cells #[.int .i64 d, .slice A1 m c1] 42) = WA at *
      have c00 : WA.cell? ⟨w.heap.size, 0, none⟩ = some (.int .i64 px) := SB.out.cell 0
      have c01 : WA.cell? ⟨w.heap.size, 1, none⟩ = some (.int .i64 py) := SB.out.cell 1
      have d0 : WA.cell? ⟨wr.heap.size, 0, none⟩ = some (.int .i64 d) := SA.out.cell 0
      have d1 : WA.cell? ⟨wr.heap.size, 1, none⟩ = some (.slice A1 m c1) := SA.out.cell 1
      go_wp2_with fail
      refine (D.out WA SB.out.1).mono ?_
      rintro e w2 ⟨rfl, hb2⟩
      have O2 := Lib.hid (own_.own_below HO.out hb2)
      have B2 := Lib.hid (HB.out.trans (hb2.mono HB.out.size))
      have S4 := Lib.hid (SA.out.old hb2)
      have hsz := B2.out.size
      clear hb2 c00 c01 d0 d1 HO HB SB SA D
      by_cases h0 : x = 0
      · have g1 : (x != 0) = false := by simp [h0]
        have HX := Lib.hid (HN.out (HW.out.symm.trans (decide_eq_false (fun h => h h0))))
        clear HY HN HW
        go_wp2_with fail
        go_roundw
        case rel => exact ⟨k + 1, by omega, by go_num, by rw [HX.out]; exact O2.out, B2.out⟩
        case measure => simp [intOf]; omega
      · have g1 : (x != 0) = true := by simp [h0]
        have HX := Lib.hid (HY.out (HW.out.symm.trans (decide_eq_true h0)))
        clear HY HN HW
        have d0 : w2.cell? ⟨wr.heap.size, 0, none⟩ = some (.int .i64 d) := S4.out.cell 0
        go_wp2_with (at_builtin; (refine wpList_append_own _ rfl (.tmp 28) (.tmp 31) 26 rfl V1.heap.size 3 i0 (.int .i64 0) 1 8 Try.underlying26 hi hz0 hz1 hz2 rfl (by decide) _ L.length (cellsI L) rfl (O2.out.alloc _) ⟨w2.heap.size, 0, none⟩ 1 1 [.int .i64 d] rfl rfl (cell_one_new _ _ _) (own_.one_cell _ rfl) (by unfold maxLen; omega) (by omega) (by simp; omega) ?_; intro v' w3 hown' hgrow hnil))
        have HB' := Lib.hid (own_.below_append B2.out O2.out hsz hgrow)
        have HO' := Lib.hid (own_app hown')
        clear hown' hgrow hnil d0
        go_roundw
        case rel => exact ⟨k + 1, by omega, by go_num, by rw [HX.out]; exact HO'.out, HB'.out⟩
        case measure => simp [intOf]; omega
    · obtain rfl : k = n := by omega
      have HO := Lib.hid hO
      have HB := Lib.hid hb
      clear hO hb HR
      go_wp2_with fail
      go_ret2
      exact ⟨_, by rw [HE.out]; rfl, by rw [HV.out]; exact own_.own_base HO.out S2.out.1.size, S2.out.1.trans (HB.out.mono S2.out.1.size)⟩
end Go.Proofs.Ytkndfklbonkbiaa.slsc

/- spec's lists of sectors: l17List, SectorsAt. Written by tools/gen_SlsD.py. -/
namespace Go.Proofs.Ytkndfklbonkbiaa.slsd
open Go.RowKit Go.Proofs.Ytkndfklbonkbiaa.ints Go.Proofs.Ytkndfklbonkbiaa.lst Go.Proofs.Ytkndfklbonkbiaa.in_ Go.Proofs.Ytkndfklbonkbiaa.ats Go.Proofs.Ytkndfklbonkbiaa.pos Go.Proofs.Ytkndfklbonkbiaa.sct Go.Proofs.Ytkndfklbonkbiaa.sctj Go.Proofs.Ytkndfklbonkbiaa.sctb Go.Proofs.Ytkndfklbonkbiaa.sctr Go.Proofs.Ytkndfklbonkbiaa.slsa Go.Proofs.Ytkndfklbonkbiaa.slsr

set_option maxRecDepth 100000 in
set_option maxHeartbeats 4000000 in
theorem list17 (ps : List Se) (A : Option Addr) (n c : Nat) (w : World) (hn : n ≤ 1048576) (hs : ∀ (k : Nat) (p : Se), ps[k]? = some p → nc p ≤ 1048576) (h1 : RdS true w w.heap.size A n ps) :
    Calls Try.prog 44 #[.slice A n c] w fun e w' => e = .returned (.bool (lsB ps n)) ∧ Below w.heap.size w w' := by
  have HR := Lib.hid h1
  have HS0 := Lib.hid hs
  have HEND := Lib.hid (fun (h : n ≤ 6 → alS ps n = true ∧ ∀ k, k < n → 0 < k → (gt ps (k - 1)).1 < (gt ps k).1) => show lsB ps n = decide ((n : Int) ≤ 6) by
    by_cases hb : n ≤ 6
    · rw [ls_yes hb (h hb).1 (h hb).2, decide_eq_true (show (n : Int) ≤ 6 by omega)]
    · rw [ls_long hb, decide_eq_false (show ¬ (n : Int) ≤ 6 by omega)])
  clear h1 hs
  go_enter Try.func44, Try.ntmps44
  go_wp2_with fail
  go_loopw [3] (fun i wr => ∃ k : Nat, k ≤ n ∧ k ≤ 7 ∧ i = .int .i64 k ∧ Below w.heap.size w wr ∧ alS ps k = true ∧ ∀ j, j < k → 0 < j → (gt ps (j - 1)).1 < (gt ps j).1) (fun i _ => n - (intOf i).toNat)
  case atStart => exact ⟨0, Nat.zero_le _, by omega, rfl, Below.refl _ _, rfl, fun j h => by omega⟩
  case round =>
    obtain ⟨k, hk, hk7, rfl, hb, hck, hasc⟩ := hrel
    have HB := Lib.hid hb
    have HAS := Lib.hid hasc
    by_cases hlt : k < n
    · by_cases hk6 : k ≤ 6
      · have hlt2 : (k : Int) < (n : Int) := by omega
        have hk62 : (k : Int) ≤ 6 := by omega
        obtain ⟨p, hp⟩ := HR.out.get hlt
        obtain ⟨b1, o1, A1, c1, rfl, -, hat⟩ := RdS.at_ HR.out hp
        obtain ⟨p0, p1, -⟩ := hat wr hb
        have HGK := Lib.hid (show (gt ps k).1 = p.1 by rw [gt_of hp])
        have HST := Lib.hid (show alS ps (k + 1) = seP p by rw [alS_step hp, hck, Bool.true_and])
        have HN1 := Lib.hid (fun (h : alS ps (k + 1) = false) => ls_no1 (n := n) h hlt)
        have HN2 := Lib.hid (fun h0 h => ls_no2 (ps := ps) hlt h0 h)
        have hm := HS0.out k p hp
        have T1 := Lib.hid (fun d0 os => Calls.regrown_of (show Calls Try.prog 55 #[.agg #[.int .i64 p.1, .slice A1 (nc p) c1]] (Sort.grow (redrawn wr d0) os) (fun e w' => e = .returned (.bool (seP p)) ∧ Below (Sort.grow (redrawn wr d0) os).heap.size (Sort.grow (redrawn wr d0) os) w') from sctw.good17 p.1 p.2 A1 (nc p) c1 _ hm (hat _ (HB.out.trans ((below_regrown wr d0 os).mono HB.out.size))).2.2))
        have HZ := Lib.hid (show 0 < k → ∃ q, q + 1 = k ∧ wr.cell? ⟨b1, o1 + q * 2, none⟩ = some (.int .i64 (gt ps q).1) from fun h0 => by
          obtain ⟨p2, hp2⟩ := HR.out.get (show k - 1 < n by omega)
          obtain ⟨b2, o2, A2, c2, eA, -, hat2⟩ := RdS.at_ HR.out hp2
          obtain ⟨rfl, rfl⟩ : b1 = b2 ∧ o1 = o2 := by injection eA with e; injection e with e1 e2; exact ⟨e1, e2⟩
          exact ⟨k - 1, by omega, by rw [gt_of hp2]; exact (hat2 wr HB.out).1⟩)
        clear hb hck hasc hat hp HEND hm
        generalize seP p = pb at *
        generalize p.1 = d at *
        generalize nc p = m at *
        cases pb
        · have HN := Lib.hid (HN1.out HST.out)
          clear HZ HST HN1 HN2
          go_wp2_with fail
          have p0' := fun d0 os => cell_regrown p0 d0 os
          have p1' := fun d0 os => cell_regrown p1 d0 os
          clear p0 p1
          refine wp_region_quiet_below (by kernel_rfl) (by kernel_rfl) ?_
          repeat (
            with_reducible refine wpQuiet_step (fun K hK => ?_)
            go_simp
            first
              | (refine hK _ ?_; clear hK K)
              | (apply Exists.intro
                 refine ⟨fun _ => ?_, hK _ ?_⟩
                 (first
                   | (go_at_call 55; with_reducible exact T1.out _ _))
                 clear hK K))
          with_reducible refine wpQuiet_nil ?_
          intro _ hw'
          obtain ⟨⟨dq, osq⟩, hw''⟩ := hw'
          subst hw''
          have hbl := (below_regrown wr dq osq)
          clear p0' p1'
          generalize Sort.grow (redrawn wr dq) osq = w3 at *
          have hbq := Lib.hid (HB.out.trans (hbl.mono HB.out.size))
          clear HB hbl
          go_wp2_with fail
          go_ret
          exact ⟨by rw [HN.out]; rfl, hbq.out⟩
        rcases Nat.eq_zero_or_pos k with h0 | h0
        · have HT := Lib.hid HST.out
          subst h0
          rw [Nat.zero_mul, Nat.add_zero] at p0 p1
          clear HZ HST HN1 HN2
          go_wp2_with fail
          have p0' := fun d0 os => cell_regrown p0 d0 os
          have p1' := fun d0 os => cell_regrown p1 d0 os
          clear p0 p1
          refine wp_region_quiet_below (by kernel_rfl) (by kernel_rfl) ?_
          repeat (
            with_reducible refine wpQuiet_step (fun K hK => ?_)
            go_simp
            first
              | (refine hK _ ?_; clear hK K)
              | (apply Exists.intro
                 refine ⟨fun _ => ?_, hK _ ?_⟩
                 (first
                   | (go_at_call 55; with_reducible exact T1.out _ _))
                 clear hK K))
          with_reducible refine wpQuiet_nil ?_
          intro _ hw'
          obtain ⟨⟨dq, osq⟩, hw''⟩ := hw'
          subst hw''
          have hbl := (below_regrown wr dq osq)
          clear p0' p1'
          generalize Sort.grow (redrawn wr dq) osq = w3 at *
          have hbq := Lib.hid (HB.out.trans (hbl.mono HB.out.size))
          clear HB hbl
          go_wp2_with fail
          go_roundw
          case rel => exact ⟨0 + 1, by omega, by omega, by go_num, hbq.out, HT.out, fun j h h0 => by omega⟩
          case measure => simp [intOf]; omega
        obtain ⟨q, hq, q0⟩ := HZ.out h0
        have hpn2 : (q : Int) < (n : Int) := by omega
        have hp0 : (0 : Int) ≤ (q : Int) := Int.natCast_nonneg _
        have e1 : IntKind.i64.wrap ((k : Int) - 1) = (q : Int) := by rw [IntWalk.i64_in _ (by omega)]; omega
        have hk0 : decide (0 < k) = true := decide_eq_true h0
        have HQ := Lib.hid (show k - 1 = q by omega)
        have HT := Lib.hid HST.out
        clear HZ hq HST HN1
        by_cases hs : (gt ps q).1 < d
        · have HT2 := Lib.hid (show ∀ j, j < k + 1 → 0 < j → (gt ps (j - 1)).1 < (gt ps j).1 from fun j hj hj0 => by
            rcases Nat.lt_or_ge j k with h | h
            · exact HAS.out j h hj0
            · obtain rfl : j = k := by omega
              rw [HQ.out, HGK.out]
              exact hs)
          have hs2 : ¬ d ≤ (gt ps q).1 := by omega
          clear HN2 hs
          generalize (gt ps q).1 = z at *
          go_wp2_with fail
          have p0' := fun d0 os => cell_regrown p0 d0 os
          have p1' := fun d0 os => cell_regrown p1 d0 os
          have q0' := fun d0 os => cell_regrown q0 d0 os
          clear p0 p1 q0
          refine wp_region_quiet_below (by kernel_rfl) (by kernel_rfl) ?_
          repeat (
            with_reducible refine wpQuiet_step (fun K hK => ?_)
            go_simp
            first
              | (refine hK _ ?_; clear hK K)
              | (apply Exists.intro
                 refine ⟨fun _ => ?_, hK _ ?_⟩
                 (first
                   | (go_at_call 55; with_reducible exact T1.out _ _))
                 clear hK K))
          with_reducible refine wpQuiet_nil ?_
          intro _ hw'
          obtain ⟨⟨dq, osq⟩, hw''⟩ := hw'
          subst hw''
          have hbl := (below_regrown wr dq osq)
          clear p0' p1' q0'
          generalize Sort.grow (redrawn wr dq) osq = w3 at *
          have hbq := Lib.hid (HB.out.trans (hbl.mono HB.out.size))
          clear HB hbl
          go_wp2_with fail
          go_roundw
          case rel => exact ⟨k + 1, by omega, by omega, by go_num, hbq.out, HT.out, HT2.out⟩
          case measure => simp [intOf]; omega
        · have HN := Lib.hid (HN2.out h0 (by rw [HQ.out, HGK.out]; exact hs))
          have hs2 : d ≤ (gt ps q).1 := by omega
          clear HN2 hs
          generalize (gt ps q).1 = z at *
          go_wp2_with fail
          have p0' := fun d0 os => cell_regrown p0 d0 os
          have p1' := fun d0 os => cell_regrown p1 d0 os
          have q0' := fun d0 os => cell_regrown q0 d0 os
          clear p0 p1 q0
          refine wp_region_quiet_below (by kernel_rfl) (by kernel_rfl) ?_
          repeat (
            with_reducible refine wpQuiet_step (fun K hK => ?_)
            go_simp
            first
              | (refine hK _ ?_; clear hK K)
              | (apply Exists.intro
                 refine ⟨fun _ => ?_, hK _ ?_⟩
                 (first
                   | (go_at_call 55; with_reducible exact T1.out _ _))
                 clear hK K))
          with_reducible refine wpQuiet_nil ?_
          intro _ hw'
          obtain ⟨⟨dq, osq⟩, hw''⟩ := hw'
          subst hw''
          have hbl := (below_regrown wr dq osq)
          clear p0' p1' q0'
          generalize Sort.grow (redrawn wr dq) osq = w3 at *
          have hbq := Lib.hid (HB.out.trans (hbl.mono HB.out.size))
          clear HB hbl
          go_wp2_with fail
          go_ret
          exact ⟨by rw [HN.out]; rfl, hbq.out⟩
      · have HE := Lib.hid (HEND.out (fun h => by omega))
        have hlt2 : (k : Int) < (n : Int) := by omega
        have hk62 : ¬ (k : Int) ≤ 6 := by omega
        have hn6 : ¬ (n : Int) ≤ 6 := by omega
        clear hck HEND hasc
        go_wp2_with fail
        go_ret
        exact ⟨by rw [HE.out]; simp; omega, HB.out⟩
    · obtain rfl : k = n := by omega
      have HE := Lib.hid (HEND.out (fun _ => ⟨hck, fun j h h0 => HAS.out j h h0⟩))
      clear hck HEND hasc
      go_wp2_with fail
      go_ret
      exact ⟨by rw [HE.out]; rfl, HB.out⟩

theorem own_at {T : TypeId} {w W : World} {b s : Nat} (h : AtS T #[] w W b) : W.ownsRow w.heap.size T s (.slice (some ⟨b, 0, none⟩) 0 0) 0 [] :=
  ⟨by simp, .inr ⟨b, 0, #[], rfl, h.2.1, h.2.2.2, Nat.le_refl _, by unfold maxLen; omega, by simp, by simp⟩⟩
theorem own_atb {T : TypeId} {w W : World} {b s : Nat} (h : AtS T #[] w W b) : W.ownsRow b T s (.slice (some ⟨b, 0, none⟩) 0 0) 0 [] :=
  ⟨by simp, .inr ⟨b, 0, #[], rfl, Nat.le_refl _, h.2.2.2, Nat.le_refl _, by unfold maxLen; omega, by simp, by simp⟩⟩
theorem own_app {w : World} {B e : Nat} {v : Value} {L : List Int} {x : Int} (h : w.ownsRow B e 1 v (L.length + 1) (cellsI L ++ [.int .i64 x])) : w.ownsRow B e 1 v (L ++ [x]).length (cellsI (L ++ [x])) := own_growI h
set_option maxRecDepth 100000 in
set_option maxHeartbeats 4000000 in
theorem sectorsAt (ps : List Se) (px py : Int) (A : Option Addr) (n c : Nat) (w : World) (hn : n ≤ 1048576) (hs : ∀ (k : Nat) (p : Se), ps[k]? = some p → nc p ≤ 1048576) (h1 : RdS true w w.heap.size A n ps) :
    Calls Try.prog 7 #[.slice A n c, .agg #[.int .i64 px, .int .i64 py]] w fun e w' => ∃ v, e = .returned (.tuple #[v, .bool (satB ps n px py)]) ∧ w'.ownsRow w.heap.size 3 1 v (satV ps n px py).length (cellsI (satV ps n px py)) ∧ Below w.heap.size w w' := by
  have S0 := Lib.hid ((newS 31 #[.int .i64 px, .int .i64 py] w).alloc (.cells #[] 3))
  have S1 := Lib.hid ((newS 31 #[.int .i64 px, .int .i64 py] w).next 3 #[])
  rw [World.size_alloc] at S1
  have T0 := Lib.hid (fun (W : World) (hb : Below w.heap.size w W) => list17 ps A n c W hn hs (h1.next hb))
  have T1 := Lib.hid (fun W => poss.good7 px py W)
  cases hq0 : lsB ps n
  · rw [hq0] at T0
    have HE := Lib.hid (sat_no1 (px := px) (py := py) hq0)
    clear h1 hs hq0
    go_enter Try.func7, Try.ntmps7
    go_wp2_with fail
    generalize ((w.alloc (.cells #[.int .i64 px, .int .i64 py] 31)).alloc (.cells #[] 3)) = W0 at *
    refine (T0.out W0 S0.out.1).mono ?_
    rintro e V0 ⟨rfl, hb⟩
    have S2 := Lib.hid (S0.out.old hb)
    have S3 := Lib.hid (S1.out.old hb)
    clear hb
    have HV := Lib.hid (satV_no HE.out)
    have OX := Lib.hid (own_at S3.out (s := 1))
    have c0 : V0.cell? ⟨w.heap.size, 0, none⟩ = some (.int .i64 px) := S2.out.cell 0
    have c1 : V0.cell? ⟨w.heap.size, 1, none⟩ = some (.int .i64 py) := S2.out.cell 1
    go_wp2_with fail
    go_ret2
    exact ⟨_, by rw [HE.out]; rfl, by rw [HV.out]; exact OX.out, S2.out.1⟩
  rw [hq0] at T0
  cases hq1 : pB px py
  · rw [hq1] at T1
    have HE := Lib.hid (sat_no2 (ps := ps) (n := n) hq1)
    clear h1 hs hq0 hq1
    go_enter Try.func7, Try.ntmps7
    go_wp2_with fail
    generalize ((w.alloc (.cells #[.int .i64 px, .int .i64 py] 31)).alloc (.cells #[] 3)) = W0 at *
    refine (T0.out W0 S0.out.1).mono ?_
    rintro e V0 ⟨rfl, hb⟩
    have S2 := Lib.hid (S0.out.old hb)
    have S3 := Lib.hid (S1.out.old hb)
    clear hb
    have c0 : V0.cell? ⟨w.heap.size, 0, none⟩ = some (.int .i64 px) := S2.out.cell 0
    have c1 : V0.cell? ⟨w.heap.size, 1, none⟩ = some (.int .i64 py) := S2.out.cell 1
    go_wp2_with fail
    clear c0 c1
    refine (T1.out V0).mono ?_
    rintro e V1 ⟨rfl, hb⟩
    have S4 := Lib.hid (S2.out.old hb)
    have S5 := Lib.hid (S3.out.old hb)
    clear hb
    have HV := Lib.hid (satV_no HE.out)
    have OX := Lib.hid (own_at S5.out (s := 1))
    go_wp2_with fail
    go_ret2
    exact ⟨_, by rw [HE.out]; rfl, by rw [HV.out]; exact OX.out, S4.out.1⟩
  rw [hq1] at T1
  have HE := Lib.hid (sat_yes hq0 hq1)
  have HV := Lib.hid (satV_yes HE.out)
  have HP := Lib.hid hq1
  have HAL := Lib.hid (ls_parts hq0)
  have HR := Lib.hid h1
  have HS0 := Lib.hid hs
  obtain ⟨i0, hi, hz0, hz1, hz2⟩ := info_parts infoI
  clear h1 hs hq0 hq1
  go_enter Try.func7, Try.ntmps7
  go_wp2_with fail
  generalize ((w.alloc (.cells #[.int .i64 px, .int .i64 py] 31)).alloc (.cells #[] 3)) = W0 at *
  refine (T0.out W0 S0.out.1).mono ?_
  rintro e V0 ⟨rfl, hb⟩
  have S2 := Lib.hid (S0.out.old hb)
  have S3 := Lib.hid (S1.out.old hb)
  clear hb
  have c0 : V0.cell? ⟨w.heap.size, 0, none⟩ = some (.int .i64 px) := S2.out.cell 0
  have c1 : V0.cell? ⟨w.heap.size, 1, none⟩ = some (.int .i64 py) := S2.out.cell 1
  go_wp2_with fail
  clear c0 c1
  refine (T1.out V0).mono ?_
  rintro e V1 ⟨rfl, hb⟩
  have S4 := Lib.hid (S2.out.old hb)
  have S5 := Lib.hid (S3.out.old hb)
  clear hb
  have O1 := Lib.hid (own_atb S5.out (s := 1))
  have hv1 := S4.out.2.2.1
  clear S0 S1 S2 S3 S5 T0 T1
  go_wp2_with fail
  go_loopw [6, 7] (fun q i wr => ∃ k : Nat, k ≤ n ∧ i = .int .i64 k ∧ wr.ownsRow (w.heap.size + 1) 3 1 q (inL ps px py k).length (cellsI (inL ps px py k)) ∧ Below (w.heap.size + 1) V1 wr) (fun _ i _ => n - (intOf i).toNat)
  case atStart => exact ⟨0, Nat.zero_le _, rfl, O1.out, Below.refl _ _⟩
  case round =>
    obtain ⟨k, hk, rfl, hO, hb⟩ := hrel
    by_cases hlt : k < n
    · have hlt2 : (k : Int) < (n : Int) := by omega
      obtain ⟨p, hp⟩ := HR.out.get hlt
      obtain ⟨b1, o1, A1, c1, rfl, -, hat⟩ := RdS.at_ HR.out hp
      have HBW := Lib.hid (S4.out.1.trans (hb.mono (Nat.le_succ _)))
      have hbs := hb.size
      obtain ⟨p0, p1, -⟩ := hat wr HBW.out
      have P0 := Lib.hid (show ∀ W, Below wr.heap.size wr W → W.cell? ⟨b1, o1 + k * 2, none⟩ = some (.int .i64 p.1) from fun W h => (hat W (HBW.out.trans (h.mono HBW.out.size))).1)
      have hlen := inL_length ps px py k
      have hmm := HS0.out k p hp
      have hsv : seV p.1 p.2 (nc p) = true := by have := alS_all HAL.out.2 hlt; rw [gt_of hp] at this; exact this
      obtain ⟨⟨g3, -⟩, gp⟩ := se_corner hsv
      have D := Lib.hid (fun d0 os => Calls.regrown_of (show Calls Try.prog 46 #[.agg #[.int .i64 p.1, .slice A1 (nc p) c1], .agg #[.int .i64 px, .int .i64 py]] (Sort.grow (redrawn wr d0) os) (fun e w' => e = .returned (.bool (inS p px py)) ∧ Below (Sort.grow (redrawn wr d0) os).heap.size (Sort.grow (redrawn wr d0) os) w') from sctu.in17 p.1 p.2 px py A1 (nc p) c1 _ hmm (by omega) gp HP.out (hat _ (HBW.out.trans ((below_regrown wr d0 os).mono HBW.out.size))).2.2))
      have HY := Lib.hid (fun h => inL_yes (px := px) (py := py) hp h)
      have HN := Lib.hid (fun h => inL_not (px := px) (py := py) hp h)
      have HO := Lib.hid hO
      have HB := Lib.hid hb
      clear hO hat hp hmm hsv gp g3
      generalize inS p px py = pb at *
      generalize hLk : inL ps px py k = L at *
      generalize p.1 = d at *
      generalize nc p = m at *
      clear hLk
      have c0 : wr.cell? ⟨w.heap.size, 0, none⟩ = some (.int .i64 px) := (hb.cell (p := ⟨w.heap.size, 0, none⟩) (Nat.lt_succ_self _)).trans (S4.out.cell 0)
      have c1' : wr.cell? ⟨w.heap.size, 1, none⟩ = some (.int .i64 py) := (hb.cell (p := ⟨w.heap.size, 1, none⟩) (Nat.lt_succ_self _)).trans (S4.out.cell 1)
      have k1 := c1'
      clear c1' hb
      cases pb
      · have HX := Lib.hid (HN.out rfl)
        clear HY HN P0
        go_upto_region 7 with fail
        have p0' := fun d0 os => cell_regrown p0 d0 os
        have p1' := fun d0 os => cell_regrown p1 d0 os
        have c0' := fun d0 os => cell_regrown c0 d0 os
        have k1' := fun d0 os => cell_regrown k1 d0 os
        clear p0 p1 c0 k1
        refine wp_region_quiet_below (by kernel_rfl) (by kernel_rfl) ?_
        repeat (
          with_reducible refine wpQuiet_step (fun K hK => ?_)
          go_simp
          first
            | (refine hK _ ?_; clear hK K)
            | (apply Exists.intro
               refine ⟨fun _ => ?_, hK _ ?_⟩
               (first
                 | (go_at_call 46; with_reducible exact D.out _ _))
               clear hK K))
        with_reducible refine wpQuiet_nil ?_
        intro _ hw'
        obtain ⟨⟨dq, osq⟩, hw''⟩ := hw'
        subst hw''
        have hbl := (below_regrown wr dq osq)
        clear p0' p1' c0' k1'
        generalize Sort.grow (redrawn wr dq) osq = w3 at *
        have O3 := Lib.hid (own_.own_below HO.out hbl)
        have B3 := Lib.hid (HB.out.trans (hbl.mono (by omega)))
        clear hbl
        go_wp2_with fail
        go_roundw
        case rel => exact ⟨k + 1, by omega, by go_num, by rw [HX.out]; exact O3.out, B3.out⟩
        case measure => simp [intOf]; omega
      · have HX := Lib.hid (HY.out rfl)
        clear HY HN
        go_upto_region 7 with fail
        have p0' := fun d0 os => cell_regrown p0 d0 os
        have p1' := fun d0 os => cell_regrown p1 d0 os
        have c0' := fun d0 os => cell_regrown c0 d0 os
        have k1' := fun d0 os => cell_regrown k1 d0 os
        clear p0 p1 c0 k1
        refine wp_region_quiet_below (by kernel_rfl) (by kernel_rfl) ?_
        repeat (
          with_reducible refine wpQuiet_step (fun K hK => ?_)
          go_simp
          first
            | (refine hK _ ?_; clear hK K)
            | (apply Exists.intro
               refine ⟨fun _ => ?_, hK _ ?_⟩
               (first
                 | (go_at_call 46; with_reducible exact D.out _ _))
               clear hK K))
        with_reducible refine wpQuiet_nil ?_
        intro _ hw'
        obtain ⟨⟨dq, osq⟩, hw''⟩ := hw'
        subst hw''
        have hbl := (below_regrown wr dq osq)
        clear p0' p1' c0' k1'
        generalize Sort.grow (redrawn wr dq) osq = w3 at *
        have O3 := Lib.hid (own_.own_below HO.out hbl)
        have B3 := Lib.hid (HB.out.trans (hbl.mono (by omega)))
        have BW3 := Lib.hid (HBW.out.trans (hbl.mono HBW.out.size))
        have p0 := P0.out w3 hbl
        have hsz := hbl.size
        clear hbl
        go_wp2_with (at_builtin; (refine wpList_append_own _ rfl (.tmp 30) (.tmp 36) 26 rfl (w.heap.size + 1) 3 i0 (.int .i64 0) 1 8 Try.underlying26 hi hz0 hz1 hz2 rfl (by decide) _ L.length (cellsI L) rfl (O3.out.alloc _) ⟨w3.heap.size, 0, none⟩ 1 1 [.int .i64 d] rfl rfl (cell_one_new _ _ _) (own_.one_cell _ rfl) (by unfold maxLen; omega) (by omega) (by simp; omega) ?_; intro v' w4 hown' hgrow hnil))
        have HB' := Lib.hid (own_.below_append B3.out O3.out (by omega) hgrow)
        have HO' := Lib.hid (own_app hown')
        clear hown' hgrow hnil p0
        go_roundw
        case rel => exact ⟨k + 1, by omega, by go_num, by rw [HX.out]; exact HO'.out, HB'.out⟩
        case measure => simp [intOf]; omega
    · obtain rfl : k = n := by omega
      have HO := Lib.hid hO
      have HB := Lib.hid hb
      clear hO hb HR
      go_wp2_with fail
      go_ret2
      exact ⟨_, by rw [HE.out]; rfl, by rw [HV.out]; exact own_.own_base HO.out (Nat.le_succ _), S4.out.1.trans (HB.out.mono (Nat.le_succ _))⟩
end Go.Proofs.Ytkndfklbonkbiaa.slsd

/- spec's DrawSectorsAt: a list of sectors and a place. -/
namespace Go.Proofs.Ytkndfklbonkbiaa.drawx17
set_option linter.unusedVariables false
open Go.RowKit Go.Proofs.Ytkndfklbonkbiaa.cur Go.Proofs.Ytkndfklbonkbiaa.atc Go.Proofs.Ytkndfklbonkbiaa.ats Go.Proofs.Ytkndfklbonkbiaa.ints Go.Proofs.Ytkndfklbonkbiaa.lst Go.Proofs.Ytkndfklbonkbiaa.rws Go.Proofs.Ytkndfklbonkbiaa.slsa Go.Proofs.Ytkndfklbonkbiaa.draws17 Go.Proofs.Ytkndfklbonkbiaa.drawu17 Go.Proofs.Ytkndfklbonkbiaa.drawt17

/-- What the Draw of a list of sectors and a place returns. -/
def SecLP (w : World) (e : Ending) (w' : World) : Prop := ∃ (v : Value) (ps : List Se) (x y : Int), e = .returned (.tuple #[v, .agg #[.int .i64 x, .int .i64 y]]) ∧ GQ w.heap.size w' v ps ∧ ps.length ≤ 4 ∧ (∀ q ∈ ps, nc q ≤ 6) ∧ Below w.heap.size w w'
theorem cells_newS (w : World) (T : TypeId) (cs : Array Value) : ∀ (j : Nat) (u : Value), cs.toList[j]? = some u → (w.alloc (.cells cs T)).cell? ((⟨w.heap.size, 0, none⟩ : Addr).add j) = some u := by
  intro j u h
  rw [Addr.add_lit, Nat.zero_add, (newS T cs w).cell j]
  simpa using h
theorem blk_ne {W : World} {B s n b T T' : Nat} {v : Value} {xs : List Value} {cs : Array Value} (h : W.ownsRow B T s v n xs) (hb : Blk T' cs W b) (ht : T' ≠ T) : v.ownBlock ≠ some b := by
  intro e
  rcases h.2 with ⟨rfl, _⟩ | ⟨g, cap, cur, rfl, _, hg, _⟩
  · cases e
  · obtain rfl : g = b := by simpa [Value.ownBlock] using e
    have h2 : W.heap[g]? = some (.cells cs T' (0, 0)) := hb
    rw [hg] at h2
    injection h2 with h2
    injection h2 with _ h2 _
    exact ht h2.symm
section
variable {B : Nat} {W W' : World} {v u : Value} {ps : List Se} {zs : List Int}
theorem GQ.base {B' : Nat} (h : GQ B' W v ps) (hB : B ≤ B') : GQ B W v ps := by
  obtain ⟨us, h1, h2, h3, h4, h5⟩ := h
  exact ⟨us, h1, own_.own_base h2 hB, h3, fun i u r hu hr => by
    obtain ⟨n, hn⟩ := h4 i u r hu hr
    exact ⟨n, own_.own_base hn hB⟩, h5⟩
theorem own_gr {e s n : Nat} {x : Value} {xs : List Value} {r : Option Nat} (h : W.ownsRow B e s x n xs) (hg : W.grownBy W' r) (hr : ∀ g, r = some g → g < B) : W'.ownsRow B e s x n xs := by
  refine h.kept hg ?_
  cases hv : x.ownBlock with
  | none => exact .inl rfl
  | some g => exact .inr (fun e => by have := (h.lt g hv).1; have := hr g e.symm; omega)
theorem GQ.gr (h : GQ B W v ps) {r : Option Nat} (hg : W.grownBy W' r) (hr : ∀ g, r = some g → g < B) : GQ B W' v ps := by
  obtain ⟨us, h1, h2, h3⟩ := h
  refine ⟨us, h1, own_gr h2 hg hr, h3.kept hg fun g i u e hu hb => ?_⟩
  have := h3.ge hu hb
  have := hr g e
  omega
/-- A list and the corners of one sector more, all in rows of their own. -/
def GC (B : Nat) (W : World) (v : Value) (ps : List Se) (u : Value) (zs : List Int) : Prop :=
  ∃ us, us.length = ps.length ∧ W.ownsRow B 42 2 v ps.length (qCells ps us) ∧ Ins B 31 2 W (us ++ [u]) ((ps.map fun p => cellsI p.2) ++ [cellsI zs])
theorem GC.start (h : GQ B W v ps) {r : Option Nat} {k : Nat} (hg : W.grownBy W' r) (hr : ∀ g, r = some g → g < B) (hB : B ≤ W.heap.size) (ho : W'.ownsRow W.heap.size 31 2 u k (cellsI zs)) : GC B W' v ps u zs := by
  obtain ⟨us, h1, h2, h3⟩ := h
  have h3' : Ins B 31 2 W' us (ps.map fun p => cellsI p.2) := h3.kept hg fun g i u e hu hb => by
    have := h3.ge hu hb
    have := hr g e
    omega
  exact ⟨us, h1, own_gr h2 hg hr, h3'.push (own_.own_base ho hB) (fun g i u' e1 e2 e3 => by
    have := (ho.lt g e1).1
    have := h3.lt e2 e3
    omega)⟩
theorem GC.gr (h : GC B W v ps u zs) {r : Option Nat} (hg : W.grownBy W' r) (hr : ∀ g, r = some g → g < B) : GC B W' v ps u zs := by
  obtain ⟨us, h1, h2, h3⟩ := h
  refine ⟨us, h1, own_gr h2 hg hr, h3.kept hg fun g i u e hu hb => ?_⟩
  have := h3.ge hu hb
  have := hr g e
  omega
theorem GC.below (h : GC B W v ps u zs) (hb : Below W.heap.size W W') : GC B W' v ps u zs := by
  obtain ⟨us, h1, h2, h3⟩ := h
  exact ⟨us, h1, own_.own_below h2 hb, h3.below hb⟩
theorem GC.set (h : GC B W v ps u zs) {bs : Nat} {cs : Array Value} (hb : Blk 42 cs W bs) (hv : v.ownBlock ≠ some bs) (i : Nat) (x : Value) : GC B (W.setCell ⟨bs, i, none⟩ x) v ps u zs := by
  obtain ⟨us, h1, h2, h3⟩ := h
  have hg := grown_set (grown_refl W (some bs)) i x
  refine ⟨us, h1, h2.kept hg (by
    cases hq : v.ownBlock with
    | none => exact .inl rfl
    | some g => exact .inr (fun e => hv (by rw [hq]; exact e))), h3.kept hg fun g i u e hu hbk => ?_⟩
  injection e with e
  subst e
  obtain ⟨n, r, ho⟩ := h3.row hu
  exact blk_ne ho hb (by decide) hbk
theorem GQ.set (h : GQ B W v ps) {bs : Nat} {cs : Array Value} (hb : Blk 42 cs W bs) (hv : v.ownBlock ≠ some bs) (i : Nat) (x : Value) : GQ B (W.setCell ⟨bs, i, none⟩ x) v ps := by
  obtain ⟨us, h1, h2, h3⟩ := h
  have hg := grown_set (grown_refl W (some bs)) i x
  refine ⟨us, h1, h2.kept hg (by
    cases hq : v.ownBlock with
    | none => exact .inl rfl
    | some g => exact .inr (fun e => hv (by rw [hq]; exact e))), h3.kept hg fun g i u e hu hbk => ?_⟩
  injection e with e
  subst e
  obtain ⟨n, r, ho⟩ := h3.row hu
  exact blk_ne ho hb (by decide) hbk
theorem GC.gq (h : GC B W v ps u zs) : GQ B W v ps := by
  obtain ⟨us, h1, h2, h3⟩ := h
  refine ⟨us, h1, h2, by rw [List.length_map]; exact h1, fun i u' r hu hr => ?_, fun i j u1 u2 g hij hu1 hu2 hg => ?_⟩
  · have hl := (List.getElem?_eq_some_iff.1 hu).1
    exact h3.2.1 i u' r (by rw [List.getElem?_append_left hl]; exact hu) (by rw [List.getElem?_append_left (by rw [List.length_map, ← h1]; exact hl)]; exact hr)
  · have hl1 := (List.getElem?_eq_some_iff.1 hu1).1
    have hl2 := (List.getElem?_eq_some_iff.1 hu2).1
    exact h3.2.2 i j u1 u2 g hij (by rw [List.getElem?_append_left hl1]; exact hu1) (by rw [List.getElem?_append_left hl2]; exact hu2) hg
theorem GC.row (h : GC B W v ps u zs) {k : Nat} (hk : zs.length = k * 2) : W.ownsRow B 31 2 u k (cellsI zs) := by
  obtain ⟨us, h1, h2, h3⟩ := h
  obtain ⟨u', hu, ho⟩ := h3.at_ (i := us.length) (r := cellsI zs) (n := k) (by rw [List.getElem?_append_right (by rw [List.length_map, h1]; exact Nat.le_refl _), List.length_map, h1, Nat.sub_self]; rfl) (by decide) (by unfold cellsI; rw [List.length_map]; exact hk)
  rw [List.getElem?_append_right (Nat.le_refl _), Nat.sub_self] at hu
  obtain rfl : u = u' := by simpa using hu
  exact ho
/-- The sector is laid behind the list. -/
theorem pushed {us : List Value} (h1 : us.length = ps.length) (h2 : W.ownsRow B 42 2 v ps.length (qCells ps us)) (h3 : Ins B 31 2 W (us ++ [u]) ((ps.map fun p => cellsI p.2) ++ [cellsI zs])) {o : Obj} {v' : Value} {d : Int}
    (hg : (W.alloc o).grownBy W' v.ownBlock) (ho : W'.ownsRow B 42 2 v' (ps.length + 1) (qCells ps us ++ [.int .i64 d, u])) : GQ B W' v' (ps ++ [(d, zs)]) := by
  have hb := (Below.refl W.heap.size W).alloc (Nat.le_refl _) o
  have h3' := h3.below hb
  have h2' := own_.own_below h2 hb
  refine ⟨us ++ [u], by rw [List.length_append, List.length_append, h1]; rfl, ?_, ?_⟩
  · have e : qCells (ps ++ [(d, zs)]) (us ++ [u]) = qCells ps us ++ [.int .i64 d, u] := by
      unfold qCells
      rw [List.zipWith_append h1.symm]
      simp [qc]
    rw [e, List.length_append]
    exact ho
  · rw [List.map_append]
    refine h3'.kept hg fun g i w0 e hw hg0 => ?_
    obtain ⟨k1, r1, ho1⟩ := h3'.row hw
    exact rws.apart ho1 h2' (by decide) hg0 e
end
theorem infoS : (Try.prog.info? 42).map (fun i => (i.zero, i.size, i.bytes)) = some (some (.agg #[.int .i64 0, .slice none 0 0]), 2, 32) := by kernel_rfl
theorem one_qc (d : Int) (A : Option Addr) (n c : Nat) : ∀ x ∈ ([.int .i64 d, .slice A n c] : List Value), x.oneCell' = true := by
  intro x hx
  simp at hx
  rcases hx with rfl | rfl <;> rfl
theorem results_tc {fn : Func} {p q : Tmp} {ty : TypeId} (h : fn.results = #[.tmp p, .cell q ty]) (tmps : Array Value) (P : Program) (w : World) :
    (results fn tmps).run P w = ((asAddr (tmps.getD q undef)).run P w).andThen fun a w₁ => ((loadVar ty a).run P w₁).andThen fun v w₂ => .ok (.tuple #[tmps.getD p undef, v]) w₂ := by
  simp only [results, h]
  simp [Sem.run_bind, Result.andThen]
end Go.Proofs.Ytkndfklbonkbiaa.drawx17

/- spec's DrawSectorsAt: the walk. -/
namespace Go.Proofs.Ytkndfklbonkbiaa.drawy17
set_option linter.unusedVariables false
set_option linter.unusedSimpArgs false
open Go.RowKit Go.Proofs.Ytkndfklbonkbiaa.cur Go.Proofs.Ytkndfklbonkbiaa.atc Go.Proofs.Ytkndfklbonkbiaa.ats Go.Proofs.Ytkndfklbonkbiaa.ints Go.Proofs.Ytkndfklbonkbiaa.lst Go.Proofs.Ytkndfklbonkbiaa.rws Go.Proofs.Ytkndfklbonkbiaa.slsa Go.Proofs.Ytkndfklbonkbiaa.draws17 Go.Proofs.Ytkndfklbonkbiaa.drawu17 Go.Proofs.Ytkndfklbonkbiaa.drawt17 Go.Proofs.Ytkndfklbonkbiaa.drawx17

theorem at_app {T Ty : TypeId} {cs : Array Value} {w W W' : World} {b B s n : Nat} {o : Obj} {v : Value} {xs : List Value} (h : AtS T cs w W b) (hv : W.ownsRow B Ty s v n xs) (hB : b < B) (hwB : w.heap.size ≤ B) (hs : B ≤ W.heap.size) (hg : (W.alloc o).grownBy W' v.ownBlock) : AtS T cs w W' b :=
  ⟨own_.below_append h.1 (own_.own_base hv hwB) (Nat.le_trans hwB hs) hg, h.2.1, by have := hg.size; rw [World.size_alloc] at this; have := h.2.2.1; omega, (hg.block b (by rw [World.size_alloc]; have := h.2.2.1; omega) (fun e => by have := (hv.lt b e.symm).1; omega)).trans ((h.alloc o).2.2.2)⟩
theorem len_of {W : World} {B n : Nat} {v : Value} {zs : List Int} (h : W.ownsRow B 31 2 v n (cellsI zs)) : zs.length = n * 2 := by have := h.1; unfold cellsI at this; simpa using this
theorem nc_of {d : Int} {zs : List Int} {k : Nat} (h : zs.length = k * 2) : nc (d, zs) = k := by unfold nc; show zs.length / 2 = k; omega
theorem gq_empty {w W : World} {b : Nat} (h : AtS 42 #[] w W b) : GQ b W (.slice (some ⟨b, 0, none⟩) 0 0) [] :=
  ⟨[], rfl, ⟨rfl, .inr ⟨b, 0, #[], rfl, Nat.le_refl _, h.2.2.2, Nat.le_refl _, by unfold maxLen; omega, rfl, rfl⟩⟩, Ins.nil ..⟩

set_option maxRecDepth 100000 in
set_option maxHeartbeats 8000000 in
theorem sectorsAt (A : Option Addr) (n c0 : Nat) (w : World) (hn : n ≤ 65536) (h : Bytes w w.heap.size A n) :
    Calls Try.prog 29 #[.slice A n c0] w (SecLP w) := by
  obtain ⟨iP, hiP, hzP0, hzP1, hzP2⟩ := info_parts drawx17.infoS
  have S0 := Lib.hid (((newS 31 #[.int .i64 0, .int .i64 0] w).alloc (.cells #[.slice A n c0, .int .i64 0, .int .u64 0] 92)).alloc (.cells #[] 42))
  have S2 := Lib.hid (((newS 31 #[.int .i64 0, .int .i64 0] w).alloc (.cells #[.slice A n c0, .int .i64 0, .int .u64 0] 92)).next 42 #[])
  rw [World.size_alloc, World.size_alloc] at S2
  have hc := new_cur c0 (by omega) (bytes_al (.cells #[.int .i64 0, .int .i64 0] 31) h)
  rw [World.size_alloc] at hc
  have HC := Lib.hid (Cur.alloc hc (.cells #[] 42))
  clear h hc
  go_enter Try.func29, Try.ntmps29
  go_wp2_with fail
  generalize (((w.alloc (.cells #[.int .i64 0, .int .i64 0] 31)).alloc (.cells #[.slice A n c0, .int .i64 0, .int .u64 0] 92)).alloc (.cells #[] 42)) = W1 at *
  have HQ := Lib.hid (gq_empty S2.out)
  have LW := Lib.hid (show w.heap.size + 1 + 1 < W1.heap.size from S2.out.2.2.1)
  have R0 := Lib.hid S0.out
  clear S0 S2
  refine (sector _ 0 W1 HC.out (by omega)).mono ?_
  rintro e w1 ⟨d, u, k, zs, rfl, ho, hk, -, hcN, hgN⟩
  obtain ⟨A1, c1, rfl⟩ := own_sliceZ ho
  have HZ := Lib.hid (len_of ho)
  have G1 := Lib.hid (GC.start HQ.out hgN (fun g e => by injection e with e; omega) (Nat.le_of_lt LW.out) ho)
  have hs1 := hgN.size
  have hlw := LW.out
  have R1 := Lib.hid ((at_gr R0.out hgN (by omega) (by omega)).alloc (.cells #[.int .i64 d, .slice A1 k c1] 42))
  have G2 := Lib.hid (G1.out.below ((Below.refl _ _).alloc (Nat.le_refl _) (.cells #[.int .i64 d, .slice A1 k c1] 42)))
  have HT := Lib.hid (Blk.new 42 #[.int .i64 d, .slice A1 k c1] w1)
  have HC := Lib.hid (Cur.alloc hcN (.cells #[.int .i64 d, .slice A1 k c1] 42))
  have LBS := Lib.hid (show w.heap.size + 1 + 1 < w1.heap.size by omega)
  clear ho hcN hgN G1 HQ R0 LW hs1 hlw
  go_upto_region 4 with fail
  generalize w1.alloc (.cells #[.int .i64 d, .slice A1 k c1] 42) = W2 at *
  generalize w1.heap.size = bs at *
  have b0 : W2.cell? ⟨bs, 0, none⟩ = some (.int .i64 d) := HT.out.cell 0 _ rfl
  have b1 : W2.cell? ⟨bs, 1, none⟩ = some (.slice A1 k c1) := HT.out.cell 1 _ rfl
  go_wp2_with fail
  clear b0 b1
  refine (spot d zs A1 k c1 (w.heap.size + 1 + 1) _ _ W2 HC.out (by omega) hk (by omega) (G2.out.row HZ.out)).mono ?_
  rintro e V1 ⟨x, y, rfl, hc, hg⟩
  have hbsl := HT.out.lt
  have hlb := LBS.out
  have hs2 := hg.size
  have R2 := Lib.hid ((at_gr R1.out hg (by omega) (by omega)).alloc (.cells #[.int .i64 x, .int .i64 y] 31))
  have G3 := Lib.hid ((G2.out.gr hg (fun g e => by injection e with e; omega)).below ((Below.refl _ _).alloc (Nat.le_refl _) (.cells #[.int .i64 x, .int .i64 y] 31)))
  have HT2 := Lib.hid ((HT.out.grown hg (by omega)).alloc (.cells #[.int .i64 x, .int .i64 y] 31))
  have HP := Lib.hid (Blk.new 31 #[.int .i64 x, .int .i64 y] V1)
  have HC2 := Lib.hid (Cur.alloc hc (.cells #[.int .i64 x, .int .i64 y] 31))
  have LBP := Lib.hid (show bs < V1.heap.size by omega)
  clear hc hg G2 R1 HT HC hbsl hs2
  go_upto_region 5 with fail
  generalize V1.alloc (.cells #[.int .i64 x, .int .i64 y] 31) = V2 at *
  generalize V1.heap.size = bp at *
  have hlp := LBP.out
  go_wp2_with fail
  refine (pick _ _ 4 V2 HC2.out (by omega) (by omega) (by omega)).mono ?_
  rintro e V3 ⟨r, rfl, r0, r1, hc, hg⟩
  obtain ⟨t, rfl⟩ := Int.eq_ofNat_of_zero_le r0
  have R3 := Lib.hid (at_gr R2.out hg (by omega) (by omega))
  have G4 := Lib.hid (G3.out.gr hg (fun g e => by injection e with e; omega))
  have HT3 := Lib.hid (HT2.out.grown hg (by omega))
  have HP3 := Lib.hid (HP.out.grown hg (by omega))
  have HC3 := Lib.hid hc
  clear hc hg G3 R2 HT2 HC2 HP
  go_wp2_with fail
  go_loopw [5, 8] (fun q i wr => ∃ (j : Nat) (ps : List Se) (d : Int) (A1 : Option Addr) (k c1 : Nat) (zs : List Int), j ≤ 3 ∧ ps.length + j ≤ 3 ∧ i = .int .i64 (j : Int) ∧ GC (w.heap.size + 1 + 1) wr q ps (.slice A1 k c1) zs ∧ Blk 42 #[.int .i64 d, .slice A1 k c1] wr bs ∧ Blk 31 #[.int .i64 x, .int .i64 y] wr bp ∧
    AtS 31 #[.int .i64 0, .int .i64 0] w wr w.heap.size ∧ q.ownBlock ≠ some bs ∧ zs.length = k * 2 ∧ k ≤ 6 ∧ (∀ p ∈ ps, nc p ≤ 6) ∧ Cur wr (w.heap.size + 1) (122 + 60 * (3 - j))) (fun _ i _ => (intOf i).toNat)
  case atStart => exact ⟨t, [], d, A1, k, c1, zs, by omega, by simp; omega, rfl, G4.out, HT3.out, HP3.out, R3.out, by simp [Value.ownBlock]; omega, HZ.out, hk, fun p h => by simp at h, HC3.out.more (by omega)⟩
  case round =>
    obtain ⟨j, ps, d, A1, k, c1, zs, hj3, hpl, rfl, hG, hT, hP, hR, hv, hz, hk6, hns, hcu⟩ := hrel
    clear R3 G4 HT3 HP3 HC3 HZ hk r0 r1
    by_cases hj : 0 < j
    · have hj2 : (0 : Int) < (j : Int) := by omega
      have hj4 : (j : Int) ≤ 3 := by omega
      have hbl := hT.lt
      have b0 : wr.cell? ⟨bs, 0, none⟩ = some (.int .i64 d) := hT.cell 0 _ rfl
      have f0 := hT.frozen 0
      have G5 := Lib.hid (hG.set hT hv 0 (.int .i64 (10 * (5 - (j : Int)))))
      have T5 := Lib.hid (show Blk 42 #[.int .i64 (10 * (5 - (j : Int))), .slice A1 k c1] (wr.setCell ⟨bs, 0, none⟩ (.int .i64 (10 * (5 - (j : Int))))) bs from atc.Blk.set hT 0 _)
      have P5 := Lib.hid (atc.Blk.other hP (show bp ≠ bs by omega) 0 (.int .i64 (10 * (5 - (j : Int)))))
      have R5 := Lib.hid (hR.other (show w.heap.size ≤ bs by omega) (show w.heap.size ≠ bs by omega) 0 (.int .i64 (10 * (5 - (j : Int)))))
      have C5 := Lib.hid (hcu.keep ((Below.refl (w.heap.size + 1 + 1) wr).setCell (p := ⟨bs, 0, none⟩) (show w.heap.size + 1 + 1 ≤ bs by omega) (.int .i64 (10 * (5 - (j : Int))))))
      have HV := Lib.hid hv
      have HNS := Lib.hid hns
      clear hG hT hP hR hcu hv hns
      go_upto_region 9 with fail
      clear b0 f0
      generalize wr.setCell ⟨bs, 0, none⟩ (.int .i64 (10 * (5 - (j : Int)))) = WA at *
      generalize (10 * (5 - (j : Int))) = d' at *
      obtain ⟨us, hu1, hu2, hu3⟩ := G5.out
      have b0 : WA.cell? ⟨bs, 0, none⟩ = some (.int .i64 d') := T5.out.cell 0 _ rfl
      have b1 : WA.cell? ⟨bs, 1, none⟩ = some (.slice A1 k c1) := T5.out.cell 1 _ rfl
      have hbl2 := T5.out.lt
      have OW := Lib.hid hu2
      have U1 := Lib.hid hu1
      have U3 := Lib.hid hu3
      clear hu1 hu2 hu3 G5
      generalize hpn : ps.length = pn at *
      go_wp2_with (at_builtin; refine wpList_append_any rfl (.tmp 28) (.tmp 30) 29 rfl (w.heap.size + 1 + 1) 42 iP (.agg #[.int .i64 0, .slice none 0 0]) 2 32 Try.underlying29 hiP hzP0 hzP1 hzP2 rfl (by decide) _ pn (qCells ps us) rfl (OW.out.alloc _) ⟨WA.heap.size, 0, none⟩ 1 1 [.int .i64 d', .slice A1 k c1] rfl rfl (cells_newS WA 42 #[.int .i64 d', .slice A1 k c1]) (one_qc d' A1 k c1) (by unfold maxLen; omega) (by omega) (by rw [World.size_alloc]; omega) ?_; intro v6 w6 o6 g6 n6; obtain ⟨A6, c6, rfl⟩ := own_sliceZ o6)
      have HPN := Lib.hid hpn
      have G6 := Lib.hid (pushed (d := d') (by rw [HPN.out]; exact U1.out) (by rw [HPN.out]; exact OW.out) U3.out g6 (by rw [HPN.out]; exact o6))
      have T6 := Lib.hid (Blk.app (T5.out.alloc _) g6 (fun q e e2 => HV.out (by subst e2; exact e)))
      have P6 := Lib.hid (Blk.app (P5.out.alloc _) g6 (fun q e e2 => blk_ne OW.out P5.out (by decide) (by subst e2; exact e)))
      have R6 := Lib.hid (at_app R5.out OW.out (show w.heap.size < w.heap.size + 1 + 1 by omega) (by omega) (by omega) g6)
      have C6 := Lib.hid (cur_append C5.out OW.out (show w.heap.size + 1 < w.heap.size + 1 + 1 by omega) (by omega) g6)
      have V6 := Lib.hid (show (Value.slice A6 (pn + 1) c6).ownBlock ≠ some bs from fun e => by
        rcases n6 with h | h
        · exact HV.out (h.symm.trans e)
        · rw [h, World.size_alloc] at e
          injection e with e
          omega)
      have hs6 : WA.heap.size < w6.heap.size := by have := g6.size; rw [World.size_alloc] at this; omega
      clear o6 g6 n6 b0 b1 OW U1 U3 T5 P5 R5 C5 HV
      refine (sector _ _ w6 C6.out (by omega)).mono ?_
      rintro e w7 ⟨d2, u2, k2, zs2, rfl, ho, hk2, -, hcN, hgN⟩
      obtain ⟨A2, c2, rfl⟩ := own_sliceZ ho
      have HZ2 := Lib.hid (len_of ho)
      have hG7 := GC.start G6.out hgN (fun g e => by injection e with e; omega) (by omega) ho
      have hT7 := T6.out.grown hgN (by omega)
      have hP7 := P6.out.grown hgN (by omega)
      have hR7 := at_gr R6.out hgN (by omega) (by omega)
      have b0 : w7.cell? ⟨bs, 0, none⟩ = some (.int .i64 d') := hT7.cell 0 _ rfl
      have b1 : w7.cell? ⟨bs, 1, none⟩ = some (.slice A1 k c1) := hT7.cell 1 _ rfl
      have f0 := hT7.frozen 0
      have f1 := hT7.frozen 1
      have T8 := atc.Blk.set hT7 0 (.int .i64 d2)
      have G8 := Lib.hid ((hG7.set hT7 V6.out 0 (.int .i64 d2)).set T8 V6.out 1 (.slice A2 k2 c2))
      have T9 := Lib.hid (show Blk 42 #[.int .i64 d2, .slice A2 k2 c2] ((w7.setCell ⟨bs, 0, none⟩ (.int .i64 d2)).setCell ⟨bs, 1, none⟩ (.slice A2 k2 c2)) bs from atc.Blk.set T8 1 _)
      have P9 := Lib.hid (atc.Blk.other (atc.Blk.other hP7 (show bp ≠ bs by omega) 0 (.int .i64 d2)) (show bp ≠ bs by omega) 1 (.slice A2 k2 c2))
      have R9 := Lib.hid ((hR7.other (show w.heap.size ≤ bs by omega) (show w.heap.size ≠ bs by omega) 0 (.int .i64 d2)).other (show w.heap.size ≤ bs by omega) (show w.heap.size ≠ bs by omega) 1 (.slice A2 k2 c2))
      have C9 := Lib.hid ((hcN.keep (((Below.refl (w.heap.size + 1 + 1) w7).setCell (p := ⟨bs, 0, none⟩) (show w.heap.size + 1 + 1 ≤ bs by omega) (.int .i64 d2)).setCell (p := ⟨bs, 1, none⟩) (show w.heap.size + 1 + 1 ≤ bs by omega) (.slice A2 k2 c2))).more (show _ ≤ 122 + 60 * (3 - (j - 1)) by omega))
      have hnp := nc_of (d := d') hz
      have NS := Lib.hid (show ∀ p ∈ ps ++ [(d', zs)], nc p ≤ 6 from fun p hp => by
        rcases List.mem_append.1 hp with h | h
        · exact HNS.out p h
        · obtain rfl : p = (d', zs) := by simpa using h
          rw [hnp]
          exact hk6)
      clear ho hcN hgN hG7 hT7 hP7 hR7 T8 G6 T6 P6 R6 C6 hnp
      go_wp2_with fail
      go_roundw
      case rel => exact ⟨j - 1, ps ++ [(d', zs)], d2, A2, k2, c2, zs2, by omega, by rw [List.length_append, List.length_singleton]; omega, by go_num, G8.out, T9.out, P9.out, R9.out, V6.out, HZ2.out, hk2, NS.out, C9.out⟩
      case measure => simp [intOf]; omega
    · obtain rfl : j = 0 := by omega
      have G5 := Lib.hid hG
      have T5 := Lib.hid hT
      have P5 := Lib.hid hP
      have R5 := Lib.hid hR
      have C5 := Lib.hid hcu
      have HV := Lib.hid hv
      have HNS := Lib.hid hns
      have HZ := Lib.hid hz
      have hbl := hT.lt
      clear hG hT hP hR hcu hv hns hz
      go_wp2_with fail
      refine (one _ _ 16 wr C5.out (by omega) (by omega) (by omega)).mono ?_
      rintro e w2 ⟨b, rfl, hc, hg⟩
      have G6 := Lib.hid (G5.out.gr hg (fun g e => by injection e with e; omega))
      have T6 := Lib.hid (T5.out.grown hg (by omega))
      have P6 := Lib.hid (P5.out.grown hg (by omega))
      have R6 := Lib.hid (at_gr R5.out hg (by omega) (by omega))
      have hs2 := hg.size
      clear hc hg G5 T5 P5 R5 C5
      cases b
      · obtain ⟨Aq, cq, rfl⟩ := G6.out.gq.slice
        have p0 : w2.cell? ⟨bp, 0, none⟩ = some (.int .i64 x) := P6.out.cell 0 _ rfl
        have p1 : w2.cell? ⟨bp, 1, none⟩ = some (.int .i64 y) := P6.out.cell 1 _ rfl
        have c00 : w2.cell? ⟨w.heap.size, 0, none⟩ = some (.int .i64 0) := R6.out.cell 0
        have c01 : w2.cell? ⟨w.heap.size, 1, none⟩ = some (.int .i64 0) := R6.out.cell 1
        have f00 : w2.frozen? ⟨w.heap.size, 0, none⟩ = false := R6.out.frozen 0
        have f01 : w2.frozen? ⟨w.heap.size, 1, none⟩ = false := R6.out.frozen 1
        have HE := Lib.hid (((R6.out.set 0 (.int .i64 x)).set 1 (.int .i64 y)).drew)
        have HG := Lib.hid (GQ.base ((GQ.gr (G6.out.gq) (grown_set (grown_set (grown_refl w2 (some w.heap.size)) 0 (.int .i64 x)) 1 (.int .i64 y)) (fun g e => by injection e with e; omega)).below (Below.refl _ _).drew) (show w.heap.size ≤ w.heap.size + 1 + 1 by omega))
        have hpl2 : ps.length ≤ 4 := by omega
        have nb : bp ≠ w.heap.size := by omega
        clear G6 T6 P6 R6
        go_wp2_with fail
        go_region
        all_goals (try go_wp2)
        all_goals (
          have hl := HE.out.load Try.underlying31 rfl (by kernel_rfl)
          refine bodyPost_ret (v := .tuple #[.slice Aq ps.length cq, .agg #[.int .i64 x, .int .i64 y]]) ?_ rfl ⟨_, ps, x, y, rfl, HG.out, hpl2, HNS.out, HE.out.1⟩
          rw [results_tc rfl]
          simp [asAddr, Result.andThen, hl])
      · obtain ⟨us, hu1, hu2, hu3⟩ := G6.out
        have b0 : w2.cell? ⟨bs, 0, none⟩ = some (.int .i64 d) := T6.out.cell 0 _ rfl
        have b1 : w2.cell? ⟨bs, 1, none⟩ = some (.slice A1 k c1) := T6.out.cell 1 _ rfl
        have OW := Lib.hid hu2
        have U1 := Lib.hid hu1
        have U3 := Lib.hid hu3
        clear hu1 hu2 hu3 G6
        generalize hpn : ps.length = pn at *
        go_upto_region 12 with fail
        go_wp2_with (at_builtin; refine wpList_append_any rfl (.tmp 36) (.tmp 38) 29 rfl (w.heap.size + 1 + 1) 42 iP (.agg #[.int .i64 0, .slice none 0 0]) 2 32 Try.underlying29 hiP hzP0 hzP1 hzP2 rfl (by decide) _ pn (qCells ps us) rfl (OW.out.alloc _) ⟨w2.heap.size, 0, none⟩ 1 1 [.int .i64 d, .slice A1 k c1] rfl rfl (cells_newS w2 42 #[.int .i64 d, .slice A1 k c1]) (one_qc d A1 k c1) (by unfold maxLen; omega) (by omega) (by rw [World.size_alloc]; omega) ?_; intro v6 w6 o6 g6 n6; obtain ⟨Aq, cq, rfl⟩ := own_sliceZ o6; have HPN := Lib.hid hpn; have G7 := Lib.hid (pushed (d := d) (by rw [HPN.out]; exact U1.out) (by rw [HPN.out]; exact OW.out) U3.out g6 (by rw [HPN.out]; exact o6)); have P7 := Lib.hid (Blk.app (P6.out.alloc _) g6 (fun q e e2 => blk_ne OW.out P6.out (by decide) (by subst e2; exact e))); have R7 := Lib.hid (at_app R6.out OW.out (show w.heap.size < w.heap.size + 1 + 1 by omega) (by omega) (by omega) g6); have p0 : w6.cell? ⟨bp, 0, none⟩ = some (.int .i64 x) := P7.out.cell 0 _ rfl; have p1 : w6.cell? ⟨bp, 1, none⟩ = some (.int .i64 y) := P7.out.cell 1 _ rfl; have c00 : w6.cell? ⟨w.heap.size, 0, none⟩ = some (.int .i64 0) := R7.out.cell 0; have c01 : w6.cell? ⟨w.heap.size, 1, none⟩ = some (.int .i64 0) := R7.out.cell 1; have f00 : w6.frozen? ⟨w.heap.size, 0, none⟩ = false := R7.out.frozen 0; have f01 : w6.frozen? ⟨w.heap.size, 1, none⟩ = false := R7.out.frozen 1; clear o6 g6 n6)
        have HE := Lib.hid (((R7.out.set 0 (.int .i64 x)).set 1 (.int .i64 y)).drew)
        have HG := Lib.hid (GQ.base ((GQ.gr G7.out (grown_set (grown_set (grown_refl w6 (some w.heap.size)) 0 (.int .i64 x)) 1 (.int .i64 y)) (fun g e => by injection e with e; omega)).below (Below.refl _ _).drew) (show w.heap.size ≤ w.heap.size + 1 + 1 by omega))
        have nb : bp ≠ w.heap.size := by omega
        have hnp := nc_of (d := d) HZ.out
        have NS := Lib.hid (show ∀ p ∈ ps ++ [(d, zs)], nc p ≤ 6 from fun p hp => by
          rcases List.mem_append.1 hp with h | h
          · exact HNS.out p h
          · obtain rfl : p = (d, zs) := by simpa using h
            rw [hnp]
            exact hk6)
        have hpl2 : (ps ++ [(d, zs)]).length ≤ 4 := by rw [List.length_append, List.length_singleton]; omega
        clear P6 R6 T6 U1 U3 OW hnp
        go_region
        all_goals (try go_wp2)
        all_goals (
          have hl := HE.out.load Try.underlying31 rfl (by kernel_rfl)
          refine bodyPost_ret (v := .tuple #[.slice Aq (pn + 1) cq, .agg #[.int .i64 x, .int .i64 y]]) ?_ rfl ⟨_, ps ++ [(d, zs)], x, y, rfl, HG.out, hpl2, NS.out, HE.out.1⟩
          rw [results_tc rfl]
          simp [asAddr, Result.andThen, hl])
end Go.Proofs.Ytkndfklbonkbiaa.drawy17

/- FnSectors' mathematics: the turned sector as a list, the area, the box, the corners. -/
namespace Go.Proofs.Ytkndfklbonkbiaa.sctz
open Go.Proofs.Ytkndfklbonkbiaa.pos Go.Proofs.Ytkndfklbonkbiaa.sct Go.Proofs.Ytkndfklbonkbiaa.sctt Go.Proofs.Ytkndfklbonkbiaa.sctv Go.Proofs.Ytkndfklbonkbiaa.sctj Go.Proofs.Ytkndfklbonkbiaa.sctr Go.Proofs.Ytkndfklbonkbiaa.sctl Go.Proofs.Ytkndfklbonkbiaa.scte
set_option linter.unusedVariables false
theorem co_mk {X Y : Nat → Int} {i : Nat} (h1 : pB (X i) (Y i) = true) (h2 : ∀ k, k < i → ¬ (X k = X i ∧ Y k = Y i)) : coB X Y i = true := by
  unfold coB
  rw [h1, decide_eq_true h2]; rfl
section
variable {X Y U V : Nat → Int} {n : Nat}
theorem brd_cg (hX : ∀ k, k < n → X k = U k) (hY : ∀ k, k < n → Y k = V k) (px py : Int) : ∀ m, m ≤ n → brd X Y n px py m = brd U V n px py m
  | 0, _ => rfl
  | m + 1, h => by
    have hl : (m + 1) % n < n := Nat.mod_lt _ (by omega)
    rw [brd, brd, brd_cg hX hY px py m (by omega), hX m (by omega), hY m (by omega), hX _ hl, hY _ hl]
theorem par_cg (hX : ∀ k, k < n → X k = U k) (hY : ∀ k, k < n → Y k = V k) (px py : Int) : ∀ m, m ≤ n → par X Y n px py m = par U V n px py m
  | 0, _ => rfl
  | m + 1, h => by
    have hl : (m + 1) % n < n := Nat.mod_lt _ (by omega)
    rw [par, par, par_cg hX hY px py m (by omega), hX m (by omega), hY m (by omega), hX _ hl, hY _ hl]
theorem in_cg (hX : ∀ k, k < n → X k = U k) (hY : ∀ k, k < n → Y k = V k) (px py : Int) : inB X Y n px py = inB U V n px py := by
  unfold inB
  rw [brd_cg hX hY px py n (Nat.le_refl _), par_cg hX hY px py n (Nat.le_refl _)]
theorem dbl_cg (hX : ∀ k, k < n → X k = U k) (hY : ∀ k, k < n → Y k = V k) (h3 : 3 ≤ n) : dbl X Y (n - 2) = dbl U V (n - 2) := by
  unfold dbl
  refine sm_congr (n - 2) fun i hi => ?_
  rw [hX 0 (by omega), hY 0 (by omega), hX (i + 1) (by omega), hY (i + 1) (by omega), hX (i + 2) (by omega), hY (i + 2) (by omega)]
theorem se_cg (hX : ∀ k, k < n → X k = U k) (hY : ∀ k, k < n → Y k = V k) {d : Int} (h : seB d X Y n = true) : seB d U V n = true := by
  obtain ⟨h1, h2, h3⟩ := se_yes h
  obtain ⟨h4, h5⟩ := bo_yes h3
  have hm : ∀ k, k % n < n := fun k => Nat.mod_lt _ (by omega)
  refine se_of h1 h2 (bo_of (fun i hi => ?_) (fun i hi => ⟨?_, fun k hk hik => ?_⟩))
  · have e := co_yes (h4 i hi)
    refine co_mk (by rw [← hX i hi, ← hY i hi]; exact e.1) fun k hk => ?_
    rw [← hX i hi, ← hY i hi, ← hX k (by omega), ← hY k (by omega)]
    exact e.2 k hk
  · have e := (h5 i hi).1
    unfold neB at e ⊢
    rw [← hX i hi, ← hY i hi, ← hX _ (hm (i + 1)), ← hY _ (hm (i + 1)), ← hX _ (hm (i + 2)), ← hY _ (hm (i + 2))]
    exact e
  · have e := (h5 i hi).2 k hk hik
    unfold apB at e ⊢
    rw [← hX i hi, ← hY i hi, ← hX _ (hm (i + 1)), ← hY _ (hm (i + 1)), ← hX k hk, ← hY k hk, ← hX _ (hm (k + 1)), ← hY _ (hm (k + 1))]
    exact e
end
section
variable {d : Int} {zs : List Int} {n : Nat}
def zt (zs : List Int) (n : Nat) : List Int := prL (cX zs) (cY zs) (rv n) n
theorem zt_len (zs : List Int) (n : Nat) : (zt zs n).length = n * 2 := prL_length ..
theorem zt_X {k : Nat} (hk : k < n) : cX (zt zs n) k = cX zs (rv n k) := cX_pr _ _ _ hk
theorem zt_Y {k : Nat} (hk : k < n) : cY (zt zs n) k = cY zs (rv n k) := cY_pr _ _ _ hk
theorem tu_zt (h : seV d zs n = true) : tuV d zs n = zt zs n ∧ tuN d zs n = n ∧ tuD d zs n = d := tu_yes h
theorem zt_se (h : seV d zs n = true) : seV d (zt zs n) n = true := by
  have h1 := se_turn (d := d) (X := cX zs) (Y := cY zs) (n := n) h
  exact se_cg (fun k hk => (zt_X hk).symm) (fun k hk => (zt_Y hk).symm) h1
theorem zt_in (px py : Int) : inB (cX (zt zs n)) (cY (zt zs n)) n px py = inB (cX zs) (cY zs) n px py := by
  rw [← in_turn (cX zs) (cY zs) n px py]
  exact in_cg (fun k hk => zt_X hk) (fun k hk => zt_Y hk) px py
theorem zt_ii (h : seV d zs n = true) (px py : Int) : iiB d (zt zs n) n px py = iiB d zs n px py ∧ iiV d (zt zs n) n px py = iiV d zs n px py := by
  have e : iiB d (zt zs n) n px py = iiB d zs n px py := by unfold iiB; rw [zt_se h, h]
  exact ⟨e, by unfold iiV; rw [e, zt_in]⟩
theorem zt_da (h : seV d zs n = true) : daV d (zt zs n) n = daV d zs n := by
  rw [daV_yes (zt_se h), daV_yes h, dbl_cg (fun k hk => zt_X hk) (fun k hk => zt_Y hk) (se_corner h).1.1]
  have e := dbl_turn (cX zs) (cY zs) (n := n) (se_corner h).1.1
  rw [show dbl (fun k => cX zs (rv n k)) (fun k => cY zs (rv n k)) (n - 2) = - dbl (cX zs) (cY zs) (n - 2) from e, Int.natAbs_neg]
theorem da_pos (h : seV d zs n = true) (hs : Sd n zs) : 1 ≤ daV d zs n := by
  obtain ⟨-, h2, h3⟩ := se_yes h
  have h4 := (bo_yes h3).1
  have hd := hs h2.1 (fun k hk => (co_yes (h4 k hk)).1) (fun i j hij hj => (co_yes (h4 j hj)).2 i hij)
  rw [daV_yes h]
  omega
theorem zt_ss (h : seV d zs n = true) : ssB d zs n d (zt zs n) n = true ∧ ssV d zs n d (zt zs n) n = true := by
  have e : ssB d zs n d (zt zs n) n = true := by unfold ssB; rw [h, zt_se h]; rfl
  refine ⟨e, ?_⟩
  have h3 := (se_corner h).1.1
  unfold ssV
  rw [e, Bool.true_and]
  unfold saB
  rw [decide_eq_true rfl, Bool.true_and, Bool.or_eq_true]
  refine Or.inr (cyc_of (d := 0) (by omega) fun i hi => ?_)
  show cX zs i = cX (zt zs n) (rv n ((i + 0) % n)) ∧ cY zs i = cY (zt zs n) (rv n ((i + 0) % n))
  rw [Nat.add_zero, Nat.mod_eq_of_lt hi, zt_X (rv_lt hi), zt_Y (rv_lt hi), rv_rv hi]
  exact ⟨rfl, rfl⟩
theorem zt_zt (hz : zs.length = n * 2) : zt (zt zs n) n = zs := by
  have e := pr_id hz
  refine list_ext2 (zt_len ..) hz fun k c hk hc => ?_
  have h1 : (zt (zt zs n) n)[k * 2 + c]? = some (if c = 0 then cX (zt zs n) (rv n k) else cY (zt zs n) (rv n k)) := pr_get _ _ _ hk hc
  have h2 : zs[k * 2 + c]? = some (if c = 0 then cX zs k else cY zs k) := by
    have := pr_get (cX zs) (cY zs) (fun k => k) hk hc
    rw [e] at this
    exact this
  rw [h1, h2, zt_X (rv_lt hk), zt_Y (rv_lt hk), rv_rv hk]
theorem box_in {px py : Int} (h : iiV d zs n px py = true) : (mnF (cX zs) n ≤ px ∧ px ≤ mxF (cX zs) n) ∧ (mnF (cY zs) n ≤ py ∧ py ≤ mxF (cY zs) n) := by
  unfold iiV at h
  rw [Bool.and_eq_true] at h
  exact in_box (fun k hk => ⟨mnF_le hk, le_mxF hk⟩) (fun k hk => ⟨mnF_le hk, le_mxF hk⟩) h.2
theorem corner_io (h : seV d zs n = true) {k : Nat} (hk : k < n) : iiB d zs n (cX zs k) (cY zs k) = true ∧ ioV d zs n (cX zs k) (cY zs k) = true := by
  have e : iiB d zs n (cX zs k) (cY zs k) = true := ii_yes h ((se_corner h).2 k hk)
  exact ⟨e, by rw [(iiV_yes e).2]; exact brd_corner hk⟩
theorem io_ii {px py : Int} (h : ioV d zs n px py = true) : iiV d zs n px py = true := by
  unfold ioV at h
  unfold iiV inB
  rw [Bool.and_eq_true] at h
  rw [h.1, h.2]; rfl
theorem ii_se {px py : Int} (h : iiB d zs n px py = true) : seV d zs n = true := by
  unfold iiB at h
  rw [Bool.and_eq_true] at h
  exact h.1
end
end Go.Proofs.Ytkndfklbonkbiaa.sctz

/- impl's functions at a valid sector and at its turned one (FnSectors). -/
namespace Go.Proofs.Ytkndfklbonkbiaa.slsg
open Go.RowKit Go.Proofs.Ytkndfklbonkbiaa.ints Go.Proofs.Ytkndfklbonkbiaa.lst Go.Proofs.Ytkndfklbonkbiaa.pos Go.Proofs.Ytkndfklbonkbiaa.sct Go.Proofs.Ytkndfklbonkbiaa.sctj Go.Proofs.Ytkndfklbonkbiaa.sctr Go.Proofs.Ytkndfklbonkbiaa.sctl Go.Proofs.Ytkndfklbonkbiaa.sctz Go.Proofs.Ytkndfklbonkbiaa.sctx
section
variable {d : Int} {zs : List Int} {n c q : Nat} {A C : Option Addr} {W : World}
theorem ts (hse : seV d zs n = true) (hc : n ≤ c) (h0 : RdZ 2 W W.heap.size A n zs) :
    Calls Try.prog 24 #[.agg #[.int .i64 d, .slice A n c]] W fun e w' => ∃ v, e = .returned (.tuple #[.agg #[.int .i64 d, v], .bool true]) ∧ w'.ownsRow W.heap.size 31 2 v n (cellsI (zt zs n)) ∧ Below W.heap.size W w' := by
  have h8 := (se_corner hse).1.2
  have t_ := sctg.turnedSector d zs A n c W hc (by omega) h0
  rw [(tu_zt hse).1, (tu_zt hse).2.1, (tu_zt hse).2.2, hse] at t_
  exact t_
theorem tt (hse : seV d zs n = true) (hz : zs.length = n * 2) (hc : n ≤ c) (h0 : RdZ 2 W W.heap.size A n (zt zs n)) :
    Calls Try.prog 24 #[.agg #[.int .i64 d, .slice A n c]] W fun e w' => ∃ v, e = .returned (.tuple #[.agg #[.int .i64 d, v], .bool true]) ∧ w'.ownsRow W.heap.size 31 2 v n (cellsI zs) ∧ Below W.heap.size W w' := by
  have t_ := ts (zt_se hse) hc h0
  rw [zt_zt hz] at t_
  exact t_
theorem it (hse : seV d zs n = true) (px py : Int) (hc : n ≤ c) (h0 : RdZ 2 W W.heap.size A n (zt zs n)) :
    Calls Try.prog 18 #[.agg #[.int .i64 d, .slice A n c], .agg #[.int .i64 px, .int .i64 py]] W fun e w' => e = .returned (.tuple #[.bool (iiV d zs n px py), .bool (iiB d zs n px py)]) ∧ Below W.heap.size W w' := by
  have h8 := (se_corner hse).1.2
  have t_ := sctp.isIn d (zt zs n) px py A n c W hc (by omega) h0
  rw [(zt_ii hse px py).1, (zt_ii hse px py).2] at t_
  exact t_
theorem ds (hse : seV d zs n = true) (hc : n ≤ c) (h0 : RdZ 2 W W.heap.size A n zs) :
    Calls Try.prog 25 #[.agg #[.int .i64 d, .slice A n c]] W fun e w' => e = .returned (.tuple #[.int .i64 (daV d zs n), .bool true]) ∧ Below W.heap.size W w' := by
  have h8 := (se_corner hse).1.2
  have t_ := sctp.doubleArea d zs A n c W hc (by omega) h0
  rw [hse] at t_
  exact t_
theorem dt (hse : seV d zs n = true) (hc : n ≤ c) (h0 : RdZ 2 W W.heap.size A n (zt zs n)) :
    Calls Try.prog 25 #[.agg #[.int .i64 d, .slice A n c]] W fun e w' => e = .returned (.tuple #[.int .i64 (daV d zs n), .bool true]) ∧ Below W.heap.size W w' := by
  have t_ := ds (zt_se hse) hc h0
  rw [zt_da hse] at t_
  exact t_
theorem ss (hse : seV d zs n = true) (hc : n ≤ c) (hq : n ≤ q) (h0 : RdZ 2 W W.heap.size A n zs) (h1 : RdZ 2 W W.heap.size C n (zt zs n)) :
    Calls Try.prog 26 #[.agg #[.int .i64 d, .slice A n c], .agg #[.int .i64 d, .slice C n q]] W fun e w' => e = .returned (.tuple #[.bool true, .bool true]) ∧ Below W.heap.size W w' := by
  have h8 := (se_corner hse).1.2
  have t_ := sctg.sameSector d zs d (zt zs n) A C n c n q W hc (by omega) hq (by omega) h0 h1
  rw [(zt_ss hse).1, (zt_ss hse).2] at t_
  exact t_
theorem sb (hse : seV d zs n = true) (hc : n ≤ c) (h0 : RdZ 2 W W.heap.size A n zs) :
    Calls Try.prog 27 #[.agg #[.int .i64 d, .slice A n c]] W fun e w' => e = .returned (.tuple #[.agg #[.int .i64 (mnF (cX zs) n), .int .i64 (mnF (cY zs) n)], .agg #[.int .i64 (mxF (cX zs) n), .int .i64 (mxF (cY zs) n)], .bool true]) ∧ Below W.heap.size W w' := by
  have h8 := (se_corner hse).1.2
  have t_ := sctx.sectorBox d zs A n c W hc (by omega) h0
  rw [(sb_yes hse cX).1, (sb_yes hse cY).1, (sb_yes hse cX).2, (sb_yes hse cY).2, hse] at t_
  exact t_
theorem ib (hse : seV d zs n = true) (hc : n ≤ c) {k : Nat} (hk : k < n) (h0 : RdZ 2 W W.heap.size A n zs) :
    Calls Try.prog 22 #[.agg #[.int .i64 d, .slice A n c], .agg #[.int .i64 (cX zs k), .int .i64 (cY zs k)]] W fun e w' => e = .returned (.tuple #[.bool true, .bool true]) ∧ Below W.heap.size W w' := by
  have h8 := (se_corner hse).1.2
  have t_ := sctp.isOnBorder d zs (cX zs k) (cY zs k) A n c W hc (by omega) h0
  rw [(corner_io hse hk).1, (corner_io hse hk).2] at t_
  exact t_
end
end Go.Proofs.Ytkndfklbonkbiaa.slsg

namespace Go.Proofs.Ytkndfklbonkbiaa.fnSectors
open Go.ChangeShapes Go.WideShapes Go.ChangeAt Go.RowKit
open Go.ChangeMaps (open_string shut_string)
open Go.Proofs.Ytkndfklbonkbiaa.code_ Go.Proofs.Ytkndfklbonkbiaa.cur Go.Proofs.Ytkndfklbonkbiaa.ats Go.Proofs.Ytkndfklbonkbiaa.lst Go.Proofs.Ytkndfklbonkbiaa.sctr Go.Proofs.Ytkndfklbonkbiaa.sctl Go.Proofs.Ytkndfklbonkbiaa.sctz Go.Proofs.Ytkndfklbonkbiaa.slsa Go.Proofs.Ytkndfklbonkbiaa.slsr Go.Proofs.Ytkndfklbonkbiaa.drawt17 Go.Proofs.Ytkndfklbonkbiaa.drawv17
set_option linter.unusedVariables false

theorem bool_ne_self (b : Bool) : (b != b) = false := by simp
theorem int_ne_self (b : Int) : (b != b) = false := by simp
theorem bool_eq_self (b : Bool) : (b == b) = true := by simp
theorem int_eq_self (b : Int) : (b == b) = true := by simp
theorem own_len2 {W : World} {B n : Nat} {v : Value} {zs : List Int} (h : W.ownsRow B 31 2 v n (ints.cellsI zs)) : zs.length = n * 2 := by have := h.1; unfold ints.cellsI at this; simpa using this

set_option maxRecDepth 100000 in
set_option maxHeartbeats 16000000 in
theorem walk (A : Option Addr) (n c : Nat) (z : List Int) (w : World) (w0 : IsRow .u8 w A n c z) :
    Calls Try.prog 4 #[.slice A n c] w fun e w' => e = .returned (.bool true) ∧ Below w.heap.size w w' := by
  obtain ⟨hby, hnc, -⟩ := bytes_of w0
  clear w0
  have hv := Lib.hid (fun w => vBig A n c w)
  by_cases hbig : (65536 : Int) < (n : Int)
  · clear hby
    go_enter Try.func4, Try.ntmps4
    go_wp2_with fail
    refine (hv.out _).mono ?_
    rintro e w1 ⟨rfl, rfl⟩
    go_wp2_with fail
    go_ret
    exact ⟨rfl, Below.refl _ _⟩
  have hd : decide ((65536 : Int) < (n : Int)) = false := by simpa using hbig
  have hn : n ≤ 65536 := by omega
  have H := Lib.hid hby
  clear hby hbig hnc
  go_enter Try.func4, Try.ntmps4
  go_wp2_with fail
  refine (hv.out _).mono ?_
  rintro e wx ⟨rfl, rfl⟩
  clear hd hv
  have HB0 := Lib.hid (Below.refl w.heap.size w)
  go_wp2_with fail
  refine (drawv17.isIn A n c w hn (Bytes_below H.out HB0.out)).mono ?_
  rintro e V1 ⟨d1, A1, k1, c1, zs1, x1, y1, rfl, ho1, hk1, hc1, hsd, h2⟩
  have HB3 := Lib.hid (HB0.out.trans (h2.mono HB0.out.size))
  clear HB0
  clear h2
  have HLZ := Lib.hid (own_len2 ho1)
  have HSD := Lib.hid hsd
  have RX4 := Lib.hid (RdZ.of_own ho1 (own_len2 ho1))
  clear ho1 hsd
  have RX5 := Lib.hid (RX4.out.next (((Below.refl _ _).alloc (by first | exact Nat.le_refl _ | (simp only [World.size_alloc]; omega)) (.cells #[.int .i64 d1, .slice A1 k1 c1] 42)).alloc (by first | exact Nat.le_refl _ | (simp only [World.size_alloc]; omega)) (.cells #[.int .i64 x1, .int .i64 y1] 31)))
  clear RX4
  have BX6 := Lib.hid ((plce.at_next 42 #[.int .i64 d1, .slice A1 k1 c1] HB3.out).alloc (.cells #[.int .i64 x1, .int .i64 y1] 31))
  have BX7 := Lib.hid ((plce.at_next 42 #[.int .i64 d1, .slice A1 k1 c1] HB3.out).next 31 #[.int .i64 x1, .int .i64 y1])
  rw [World.size_alloc] at BX7
  clear HB3
  have HBn := Lib.hid BX6.out.1
  have HB8 := HBn
  clear HBn
  go_upto_region 4 with fail
  generalize ((V1.alloc (.cells #[.int .i64 d1, .slice A1 k1 c1] 42)).alloc (.cells #[.int .i64 x1, .int .i64 y1] 31)) = W1 at *
  have CI := Lib.hid (fun (W : World) (h0 : RdZ 2 W W.heap.size A1 k1 zs1) => sctp.isIn d1 zs1 x1 y1 A1 k1 c1 W hc1 (by omega) h0)
  have CS := Lib.hid (fun (W : World) (h0 : RdZ 2 W W.heap.size A1 k1 zs1) => sctq.isIn d1 zs1 x1 y1 A1 k1 c1 W (by omega) h0)
  have BI := Lib.hid (fun (W : World) (h0 : RdZ 2 W W.heap.size A1 k1 zs1) => sctp.isOnBorder d1 zs1 x1 y1 A1 k1 c1 W hc1 (by omega) h0)
  have BS := Lib.hid (fun (W : World) (h0 : RdZ 2 W W.heap.size A1 k1 zs1) => sctq.isOnBorder d1 zs1 x1 y1 A1 k1 c1 W (by omega) h0)
  have VI := Lib.hid (fun (W : World) (h0 : RdZ 2 W W.heap.size A1 k1 zs1) => show Calls Try.prog 20 #[.agg #[.int .i64 d1, .slice A1 k1 c1]] W (fun e w' => e = .returned (.bool (seV d1 zs1 k1)) ∧ Below W.heap.size W w') from sctc.isValidSector d1 zs1 A1 k1 c1 W hc1 (by omega) h0)
  have VS := Lib.hid (fun (W : World) (h0 : RdZ 2 W W.heap.size A1 k1 zs1) => show Calls Try.prog 21 #[.agg #[.int .i64 d1, .slice A1 k1 c1]] W (fun e w' => e = .returned (.bool (seV d1 zs1 k1)) ∧ Below W.heap.size W w') from sctw.isValidSector d1 zs1 A1 k1 c1 W (by omega) h0)
  have MB := Lib.hid (fun (h : ioV d1 zs1 k1 x1 y1 = true) => io_ii h)
  have MS := Lib.hid (fun (h : iiB d1 zs1 k1 x1 y1 = true) => ii_se h)
  have MX := Lib.hid (fun (h : iiV d1 zs1 k1 x1 y1 = true) => box_in h)
  have n0 := bool_ne_self (seV d1 zs1 k1)
  generalize hyv0 : iiV d1 zs1 k1 x1 y1 = yv at *
  generalize hO10 : iiB d1 zs1 k1 x1 y1 = O1 at *
  generalize ioV d1 zs1 k1 x1 y1 = bo at *
  have n1 := bool_ne_self yv
  have n2 := bool_ne_self O1
  have n3 := bool_ne_self bo
  have hyv := Lib.hid hyv0
  have hO1 := Lib.hid hO10
  clear hyv0 hO10
  have ks0_ : W1.cell? ⟨V1.heap.size, 0, none⟩ = some (.int .i64 d1) := BX6.out.cell 0
  have ks1_ : W1.cell? ⟨V1.heap.size, 1, none⟩ = some (.slice A1 k1 c1) := BX6.out.cell 1
  have kp0_ : W1.cell? ⟨V1.heap.size + 1, 0, none⟩ = some (.int .i64 x1) := BX7.out.cell 0
  have kp1_ : W1.cell? ⟨V1.heap.size + 1, 1, none⟩ = some (.int .i64 y1) := BX7.out.cell 1
  go_wp2_with fail
  clear ks0_ ks1_ kp0_ kp1_
  refine (CI.out W1 RX5.out).mono ?_
  rintro e V9 ⟨rfl, h10⟩
  have HB11 := Lib.hid (HB8.out.trans (h10.mono HB8.out.size))
  clear HB8
  have BX12 := Lib.hid (BX6.out.old h10)
  clear BX6
  have BX13 := Lib.hid (BX7.out.old h10)
  clear BX7
  have RX14 := Lib.hid (RX5.out.next h10)
  clear RX5
  clear h10
  have ks0_ : V9.cell? ⟨V1.heap.size, 0, none⟩ = some (.int .i64 d1) := BX12.out.cell 0
  have ks1_ : V9.cell? ⟨V1.heap.size, 1, none⟩ = some (.slice A1 k1 c1) := BX12.out.cell 1
  have kp0_ : V9.cell? ⟨V1.heap.size + 1, 0, none⟩ = some (.int .i64 x1) := BX13.out.cell 0
  have kp1_ : V9.cell? ⟨V1.heap.size + 1, 1, none⟩ = some (.int .i64 y1) := BX13.out.cell 1
  go_wp2_with fail
  clear ks0_ ks1_ kp0_ kp1_
  refine (CS.out V9 RX14.out).mono ?_
  rintro e V15 ⟨rfl, h16⟩
  have HB17 := Lib.hid (HB11.out.trans (h16.mono HB11.out.size))
  clear HB11
  have BX18 := Lib.hid (BX12.out.old h16)
  clear BX12
  have BX19 := Lib.hid (BX13.out.old h16)
  clear BX13
  have RX20 := Lib.hid (RX14.out.next h16)
  clear RX14
  clear h16
  clear CI CS
  have ks0_ : V15.cell? ⟨V1.heap.size, 0, none⟩ = some (.int .i64 d1) := BX18.out.cell 0
  have ks1_ : V15.cell? ⟨V1.heap.size, 1, none⟩ = some (.slice A1 k1 c1) := BX18.out.cell 1
  have VIq := Lib.hid (fun d0 os => Calls.regrown_of (VI.out (Sort.grow (redrawn V15 d0) os) (RX20.out.next (below_regrown V15 d0 os))))
  have VSq := Lib.hid (fun d0 os => Calls.regrown_of (VS.out (Sort.grow (redrawn V15 d0) os) (RX20.out.next (below_regrown V15 d0 os))))
  clear VI VS
  go_upto_region 6 with fail
  have ks0_' := fun d0 os => cell_regrown ks0_ d0 os
  have ks1_' := fun d0 os => cell_regrown ks1_ d0 os
  clear ks0_ ks1_
  refine wp_region_quiet_below (by kernel_rfl) (by kernel_rfl) ?_
  repeat (
    with_reducible refine wpQuiet_step (fun K hK => ?_)
    go_simp
    first
      | (refine hK _ ?_; clear hK K)
      | (apply Exists.intro
         refine ⟨fun _ => ?_, hK _ ?_⟩
         (first
           | (go_at_call 20; with_reducible exact VIq.out _ _)
           | (go_at_call 21; with_reducible exact VSq.out _ _))
         clear hK K))
  with_reducible refine wpQuiet_nil ?_
  intro _ hw'
  obtain ⟨⟨dq, osq⟩, hw''⟩ := hw'
  subst hw''
  have hbl := (below_regrown V15 dq osq)
  clear ks0_' ks1_'
  generalize Sort.grow (redrawn V15 dq) osq = VQ at *
  clear VIq VSq
  have HB21 := Lib.hid (HB17.out.trans (hbl.mono HB17.out.size))
  clear HB17
  have BX22 := Lib.hid (BX18.out.old hbl)
  clear BX18
  have BX23 := Lib.hid (BX19.out.old hbl)
  clear BX19
  have RX24 := Lib.hid (RX20.out.next hbl)
  clear RX20
  clear hbl
  have ks0_ : VQ.cell? ⟨V1.heap.size, 0, none⟩ = some (.int .i64 d1) := BX22.out.cell 0
  have ks1_ : VQ.cell? ⟨V1.heap.size, 1, none⟩ = some (.slice A1 k1 c1) := BX22.out.cell 1
  have kp0_ : VQ.cell? ⟨V1.heap.size + 1, 0, none⟩ = some (.int .i64 x1) := BX23.out.cell 0
  have kp1_ : VQ.cell? ⟨V1.heap.size + 1, 1, none⟩ = some (.int .i64 y1) := BX23.out.cell 1
  go_wp2_with fail
  clear ks0_ ks1_ kp0_ kp1_
  refine (BI.out VQ RX24.out).mono ?_
  rintro e V25 ⟨rfl, h26⟩
  have HB27 := Lib.hid (HB21.out.trans (h26.mono HB21.out.size))
  clear HB21
  have BX28 := Lib.hid (BX22.out.old h26)
  clear BX22
  have BX29 := Lib.hid (BX23.out.old h26)
  clear BX23
  have RX30 := Lib.hid (RX24.out.next h26)
  clear RX24
  clear h26
  have ks0_ : V25.cell? ⟨V1.heap.size, 0, none⟩ = some (.int .i64 d1) := BX28.out.cell 0
  have ks1_ : V25.cell? ⟨V1.heap.size, 1, none⟩ = some (.slice A1 k1 c1) := BX28.out.cell 1
  have kp0_ : V25.cell? ⟨V1.heap.size + 1, 0, none⟩ = some (.int .i64 x1) := BX29.out.cell 0
  have kp1_ : V25.cell? ⟨V1.heap.size + 1, 1, none⟩ = some (.int .i64 y1) := BX29.out.cell 1
  go_wp2_with fail
  clear ks0_ ks1_ kp0_ kp1_
  refine (BS.out V25 RX30.out).mono ?_
  rintro e V31 ⟨rfl, h32⟩
  have HB33 := Lib.hid (HB27.out.trans (h32.mono HB27.out.size))
  clear HB27
  have BX34 := Lib.hid (BX28.out.old h32)
  clear BX28
  have BX35 := Lib.hid (BX29.out.old h32)
  clear BX29
  have RX36 := Lib.hid (RX30.out.next h32)
  clear RX30
  clear h32
  clear BI BS
  go_upto_region 10 with fail
  go_cut [102] from 83 to 102 (fun s wz => s = .bool false ∧ Below V31.heap.size V31 wz)
  case first =>
    cases hbo : bo
    · subst hbo
      go_wp2_with fail
      go_meet
      exact ⟨rfl, Below.refl _ _⟩
    · have hyy := MB.out hbo
      subst hbo
      subst hyy
      go_wp2_with fail
      go_meet
      exact ⟨rfl, Below.refl _ _⟩
  case rest =>
    obtain ⟨rfl, hcx⟩ := hcut
    clear MB n3
    have HB37 := Lib.hid (HB33.out.trans (hcx.mono HB33.out.size))
    clear HB33
    have BX38 := Lib.hid (BX34.out.old hcx)
    clear BX34
    have BX39 := Lib.hid (BX35.out.old hcx)
    clear BX35
    have RX40 := Lib.hid (RX36.out.next hcx)
    clear RX36
    clear hcx
    go_upto_if 103 with fail
    go_cut [] from 104 to 241 (fun wz => Below wc.heap.size wc wz)
    case first =>
      cases O1
      · go_wp2_with fail
        go_meet
        exact Below.refl _ _
      · skip
        have KB := Lib.hid (Below.refl wc.heap.size wc)
        have hse := MS.out rfl
        obtain ⟨hg3, hg8⟩ := (se_corner hse).1
        obtain ⟨b, o, rfl, -, -, -⟩ := sctb.cells2 RX40.out (show 0 < k1 by omega)
        have n4 := int_ne_self (daV d1 zs1 k1)
        have hda := da_pos hse HSD.out
        have hse0 := Lib.hid hse
        have TS := Lib.hid (fun (W : World) (h0 : RdZ 2 W W.heap.size (some ⟨b, o, none⟩) k1 zs1) => slsg.ts hse0.out hc1 h0)
        have IT := Lib.hid (fun (A : Option Addr) (c : Nat) (hc : k1 ≤ c) (W : World) (h0 : RdZ 2 W W.heap.size A k1 (zt zs1 k1)) => slsg.it hse0.out x1 y1 hc h0)
        have DT := Lib.hid (fun (A : Option Addr) (c : Nat) (hc : k1 ≤ c) (W : World) (h0 : RdZ 2 W W.heap.size A k1 (zt zs1 k1)) => slsg.dt hse0.out hc h0)
        have SS := Lib.hid (fun (A : Option Addr) (c : Nat) (hc : k1 ≤ c) (W : World) (h0 : RdZ 2 W W.heap.size (some ⟨b, o, none⟩) k1 zs1) (h1 : RdZ 2 W W.heap.size A k1 (zt zs1 k1)) => slsg.ss hse0.out hc1 hc h0 h1)
        have TT := Lib.hid (fun (A : Option Addr) (c : Nat) (hc : k1 ≤ c) (W : World) (h0 : RdZ 2 W W.heap.size A k1 (zt zs1 k1)) => slsg.tt hse0.out HLZ.out hc h0)
        have DS := Lib.hid (fun (W : World) (h0 : RdZ 2 W W.heap.size (some ⟨b, o, none⟩) k1 zs1) => slsg.ds hse0.out hc1 h0)
        have SB := Lib.hid (fun (W : World) (h0 : RdZ 2 W W.heap.size (some ⟨b, o, none⟩) k1 zs1) => slsg.sb hse0.out hc1 h0)
        have IB := Lib.hid (fun (k : Nat) (hk : k < k1) (W : World) (h0 : RdZ 2 W W.heap.size (some ⟨b, o, none⟩) k1 zs1) => slsg.ib hse0.out hc1 hk h0)
        rw [hyv.out, hO1.out] at IT
        generalize hdav : daV d1 zs1 k1 = da at *
        have hda2 : ¬ da < 1 := by omega
        generalize sctj.mnF (sctj.cX zs1) k1 = lx at *
        generalize sctj.mnF (sctj.cY zs1) k1 = ly at *
        generalize sctj.mxF (sctj.cX zs1) k1 = hx at *
        generalize sctj.mxF (sctj.cY zs1) k1 = hy at *
        clear hdav MS hse
        have ks0_ : wc.cell? ⟨V1.heap.size, 0, none⟩ = some (.int .i64 d1) := BX38.out.cell 0
        have ks1_ : wc.cell? ⟨V1.heap.size, 1, none⟩ = some (.slice (some ⟨b, o, none⟩) k1 c1) := BX38.out.cell 1
        go_wp2_with fail
        clear ks0_ ks1_
        refine (TS.out wc RX40.out).mono ?_
        rintro e V41 ⟨vt, rfl, hot, h42⟩
        obtain ⟨At, ct, rfl, hct⟩ := slsa.capZ hot
        have KB := Lib.hid (KB.out.trans (h42.mono KB.out.size))
        have HB43 := Lib.hid (HB37.out.trans (h42.mono HB37.out.size))
        have BX44 := Lib.hid (BX38.out.old h42)
        have BX45 := Lib.hid (BX39.out.old h42)
        have RX46 := Lib.hid (RX40.out.next h42)
        have RX47 := Lib.hid (RdZ.of_own hot (own_len2 hot))
        clear hot
        have KB := Lib.hid (KB.out.trans (((Below.refl V41.heap.size V41).alloc (by first | exact Nat.le_refl _ | (simp only [World.size_alloc]; omega)) (.cells #[.int .i64 d1, .slice At k1 ct] 42)).mono KB.out.size))
        have RX48 := Lib.hid (RX46.out.next ((Below.refl _ _).alloc (by first | exact Nat.le_refl _ | (simp only [World.size_alloc]; omega)) (.cells #[.int .i64 d1, .slice At k1 ct] 42)))
        clear RX46
        have RX49 := Lib.hid (RX47.out.next ((Below.refl _ _).alloc (by first | exact Nat.le_refl _ | (simp only [World.size_alloc]; omega)) (.cells #[.int .i64 d1, .slice At k1 ct] 42)))
        clear RX47
        have BX50 := Lib.hid (plce.at_next 42 #[.int .i64 d1, .slice At k1 ct] HB43.out)
        have BX51 := Lib.hid (BX44.out.alloc (.cells #[.int .i64 d1, .slice At k1 ct] 42))
        clear BX44
        have BX52 := Lib.hid (BX45.out.alloc (.cells #[.int .i64 d1, .slice At k1 ct] 42))
        clear BX45
        clear HB43
        have HBn := Lib.hid BX50.out.1
        have HB53 := HBn
        clear HBn
        go_upto_region 14 with fail
        generalize (V41.alloc (.cells #[.int .i64 d1, .slice At k1 ct] 42)) = W2 at *
        have kt0_ : W2.cell? ⟨V41.heap.size, 0, none⟩ = some (.int .i64 d1) := BX50.out.cell 0
        have kt1_ : W2.cell? ⟨V41.heap.size, 1, none⟩ = some (.slice At k1 ct) := BX50.out.cell 1
        have kp0_ : W2.cell? ⟨V1.heap.size + 1, 0, none⟩ = some (.int .i64 x1) := BX52.out.cell 0
        have kp1_ : W2.cell? ⟨V1.heap.size + 1, 1, none⟩ = some (.int .i64 y1) := BX52.out.cell 1
        go_wp2_with fail
        clear kt0_ kt1_ kp0_ kp1_
        refine (IT.out At ct hct W2 RX49.out).mono ?_
        rintro e V54 ⟨rfl, h55⟩
        have KB := Lib.hid (KB.out.trans (h55.mono KB.out.size))
        have HB56 := Lib.hid (HB53.out.trans (h55.mono HB53.out.size))
        have BX57 := Lib.hid (BX51.out.old h55)
        have BX58 := Lib.hid (BX52.out.old h55)
        have BX59 := Lib.hid (BX50.out.old h55)
        have RX60 := Lib.hid (RX48.out.next h55)
        have RX61 := Lib.hid (RX49.out.next h55)
        have ks0_ : V54.cell? ⟨V1.heap.size, 0, none⟩ = some (.int .i64 d1) := BX57.out.cell 0
        have ks1_ : V54.cell? ⟨V1.heap.size, 1, none⟩ = some (.slice (some ⟨b, o, none⟩) k1 c1) := BX57.out.cell 1
        go_wp2_with fail
        clear ks0_ ks1_
        refine (DS.out V54 RX60.out).mono ?_
        rintro e V62 ⟨rfl, h63⟩
        have KB := Lib.hid (KB.out.trans (h63.mono KB.out.size))
        have HB64 := Lib.hid (HB56.out.trans (h63.mono HB56.out.size))
        have BX65 := Lib.hid (BX57.out.old h63)
        have BX66 := Lib.hid (BX58.out.old h63)
        have BX67 := Lib.hid (BX59.out.old h63)
        have RX68 := Lib.hid (RX60.out.next h63)
        have RX69 := Lib.hid (RX61.out.next h63)
        have kt0_ : V62.cell? ⟨V41.heap.size, 0, none⟩ = some (.int .i64 d1) := BX67.out.cell 0
        have kt1_ : V62.cell? ⟨V41.heap.size, 1, none⟩ = some (.slice At k1 ct) := BX67.out.cell 1
        go_wp2_with fail
        clear kt0_ kt1_
        refine (DT.out At ct hct V62 RX69.out).mono ?_
        rintro e V70 ⟨rfl, h71⟩
        have KB := Lib.hid (KB.out.trans (h71.mono KB.out.size))
        have HB72 := Lib.hid (HB64.out.trans (h71.mono HB64.out.size))
        have BX73 := Lib.hid (BX65.out.old h71)
        have BX74 := Lib.hid (BX66.out.old h71)
        have BX75 := Lib.hid (BX67.out.old h71)
        have RX76 := Lib.hid (RX68.out.next h71)
        have RX77 := Lib.hid (RX69.out.next h71)
        have ks0_ : V70.cell? ⟨V1.heap.size, 0, none⟩ = some (.int .i64 d1) := BX73.out.cell 0
        have ks1_ : V70.cell? ⟨V1.heap.size, 1, none⟩ = some (.slice (some ⟨b, o, none⟩) k1 c1) := BX73.out.cell 1
        have kt0_ : V70.cell? ⟨V41.heap.size, 0, none⟩ = some (.int .i64 d1) := BX75.out.cell 0
        have kt1_ : V70.cell? ⟨V41.heap.size, 1, none⟩ = some (.slice At k1 ct) := BX75.out.cell 1
        go_wp2_with fail
        clear ks0_ ks1_ kt0_ kt1_
        refine (SS.out At ct hct V70 RX76.out RX77.out).mono ?_
        rintro e V78 ⟨rfl, h79⟩
        have KB := Lib.hid (KB.out.trans (h79.mono KB.out.size))
        have HB80 := Lib.hid (HB72.out.trans (h79.mono HB72.out.size))
        have BX81 := Lib.hid (BX73.out.old h79)
        have BX82 := Lib.hid (BX74.out.old h79)
        have BX83 := Lib.hid (BX75.out.old h79)
        have RX84 := Lib.hid (RX76.out.next h79)
        have RX85 := Lib.hid (RX77.out.next h79)
        have ks0_ : V78.cell? ⟨V1.heap.size, 0, none⟩ = some (.int .i64 d1) := BX81.out.cell 0
        have ks1_ : V78.cell? ⟨V1.heap.size, 1, none⟩ = some (.slice (some ⟨b, o, none⟩) k1 c1) := BX81.out.cell 1
        go_wp2_with fail
        clear ks0_ ks1_
        refine (SB.out V78 RX84.out).mono ?_
        rintro e V86 ⟨rfl, h87⟩
        have KB := Lib.hid (KB.out.trans (h87.mono KB.out.size))
        have HB88 := Lib.hid (HB80.out.trans (h87.mono HB80.out.size))
        have BX89 := Lib.hid (BX81.out.old h87)
        have BX90 := Lib.hid (BX82.out.old h87)
        have BX91 := Lib.hid (BX83.out.old h87)
        have RX92 := Lib.hid (RX84.out.next h87)
        have RX93 := Lib.hid (RX85.out.next h87)
        clear TS IT DS DT SS SB
        have KB := Lib.hid (KB.out.trans ((((Below.refl V86.heap.size V86).alloc (by first | exact Nat.le_refl _ | (simp only [World.size_alloc]; omega)) (.cells #[.int .i64 lx, .int .i64 ly] 31)).alloc (by first | exact Nat.le_refl _ | (simp only [World.size_alloc]; omega)) (.cells #[.int .i64 hx, .int .i64 hy] 31)).mono KB.out.size))
        have RX94 := Lib.hid (RX92.out.next (((Below.refl _ _).alloc (by first | exact Nat.le_refl _ | (simp only [World.size_alloc]; omega)) (.cells #[.int .i64 lx, .int .i64 ly] 31)).alloc (by first | exact Nat.le_refl _ | (simp only [World.size_alloc]; omega)) (.cells #[.int .i64 hx, .int .i64 hy] 31)))
        clear RX92
        have RX95 := Lib.hid (RX93.out.next (((Below.refl _ _).alloc (by first | exact Nat.le_refl _ | (simp only [World.size_alloc]; omega)) (.cells #[.int .i64 lx, .int .i64 ly] 31)).alloc (by first | exact Nat.le_refl _ | (simp only [World.size_alloc]; omega)) (.cells #[.int .i64 hx, .int .i64 hy] 31)))
        clear RX93
        have BX96 := Lib.hid ((plce.at_next 31 #[.int .i64 lx, .int .i64 ly] HB88.out).alloc (.cells #[.int .i64 hx, .int .i64 hy] 31))
        have BX97 := Lib.hid ((plce.at_next 31 #[.int .i64 lx, .int .i64 ly] HB88.out).next 31 #[.int .i64 hx, .int .i64 hy])
        rw [World.size_alloc] at BX97
        have BX98 := Lib.hid ((BX89.out.alloc (.cells #[.int .i64 lx, .int .i64 ly] 31)).alloc (.cells #[.int .i64 hx, .int .i64 hy] 31))
        clear BX89
        have BX99 := Lib.hid ((BX90.out.alloc (.cells #[.int .i64 lx, .int .i64 ly] 31)).alloc (.cells #[.int .i64 hx, .int .i64 hy] 31))
        clear BX90
        have BX100 := Lib.hid ((BX91.out.alloc (.cells #[.int .i64 lx, .int .i64 ly] 31)).alloc (.cells #[.int .i64 hx, .int .i64 hy] 31))
        clear BX91
        clear HB88
        have HBn := Lib.hid BX96.out.1
        have HB101 := HBn
        clear HBn
        go_upto_region 19 with fail
        generalize ((V86.alloc (.cells #[.int .i64 lx, .int .i64 ly] 31)).alloc (.cells #[.int .i64 hx, .int .i64 hy] 31)) = W3 at *
        have kp0_ : W3.cell? ⟨V1.heap.size + 1, 0, none⟩ = some (.int .i64 x1) := BX99.out.cell 0
        have kp1_ : W3.cell? ⟨V1.heap.size + 1, 1, none⟩ = some (.int .i64 y1) := BX99.out.cell 1
        have kl0_ : W3.cell? ⟨V86.heap.size, 0, none⟩ = some (.int .i64 lx) := BX96.out.cell 0
        have kl1_ : W3.cell? ⟨V86.heap.size, 1, none⟩ = some (.int .i64 ly) := BX96.out.cell 1
        have kh0_ : W3.cell? ⟨V86.heap.size + 1, 0, none⟩ = some (.int .i64 hx) := BX97.out.cell 0
        have kh1_ : W3.cell? ⟨V86.heap.size + 1, 1, none⟩ = some (.int .i64 hy) := BX97.out.cell 1
        go_upto_region 21 with fail
        go_cut [205] from 177 to 205 (fun s wz => s = .bool false ∧ Below W3.heap.size W3 wz)
        case first =>
          cases hyy : yv
          · subst hyy
            go_wp2_with fail
            go_meet
            exact ⟨rfl, Below.refl _ _⟩
          · obtain ⟨⟨m1, m2⟩, m3, m4⟩ := MX.out hyy
            subst hyy
            have q1 : ¬ x1 < lx := by omega
            have q2 : ¬ hx < x1 := by omega
            have q3 : ¬ y1 < ly := by omega
            have q4 : ¬ hy < y1 := by omega
            go_wp2_with fail
            go_meet
            exact ⟨rfl, Below.refl _ _⟩
        case rest =>
          obtain ⟨rfl, hcx⟩ := hcut
          clear MX kp0_ kp1_ kl0_ kl1_ kh0_ kh1_
          have KB := Lib.hid (KB.out.trans (hcx.mono KB.out.size))
          generalize wc = W4 at *
          have HB102 := Lib.hid (HB101.out.trans (hcx.mono HB101.out.size))
          have BX103 := Lib.hid (BX98.out.old hcx)
          have BX104 := Lib.hid (BX99.out.old hcx)
          have BX105 := Lib.hid (BX100.out.old hcx)
          have BX106 := Lib.hid (BX96.out.old hcx)
          have BX107 := Lib.hid (BX97.out.old hcx)
          have RX108 := Lib.hid (RX94.out.next hcx)
          have RX109 := Lib.hid (RX95.out.next hcx)
          go_wp2_with fail
          go_loopw [26] (fun i wr => ∃ k : Nat, k ≤ k1 ∧ i = .int .i64 k ∧ Below W4.heap.size W4 wr) (fun i _ => k1 - (intOf i).toNat)
          case atStart => exact ⟨0, Nat.zero_le _, rfl, Below.refl _ _⟩
          case round =>
            obtain ⟨k, hk, rfl, hb⟩ := hrel
            have HBk := Lib.hid hb
            have k0_ : wr.cell? ⟨V1.heap.size, 0, none⟩ = some (.int .i64 d1) := (BX103.out.old hb).cell 0
            have k1_ : wr.cell? ⟨V1.heap.size, 1, none⟩ = some (.slice (some ⟨b, o, none⟩) k1 c1) := (BX103.out.old hb).cell 1
            by_cases hlt : k < k1
            · have hlt2 : (k : Int) < (k1 : Int) := by omega
              obtain ⟨k2_, k3_⟩ := (sctu.corner RX108.out hlt hb).1
              have IBq := Lib.hid (fun d0 os => Calls.regrown_of (IB.out k hlt (Sort.grow (redrawn wr d0) os) ((RX108.out.next hb).next (below_regrown wr d0 os))))
              clear hb
              generalize sctj.cX zs1 k = cx at *
              generalize sctj.cY zs1 k = cy at *
              go_upto_region 26 with fail
              have k0_' := fun d0 os => cell_regrown k0_ d0 os
              have k1_' := fun d0 os => cell_regrown k1_ d0 os
              have k2_' := fun d0 os => cell_regrown k2_ d0 os
              have k3_' := fun d0 os => cell_regrown k3_ d0 os
              clear k0_ k1_ k2_ k3_
              refine wp_region_quiet_below (by kernel_rfl) (by kernel_rfl) ?_
              repeat (
                with_reducible refine wpQuiet_step (fun K hK => ?_)
                go_simp
                first
                  | (refine hK _ ?_; clear hK K)
                  | (apply Exists.intro
                     refine ⟨fun _ => ?_, hK _ ?_⟩
                     (first
                       | (go_at_call 22; with_reducible exact IBq.out _ _))
                     clear hK K))
              with_reducible refine wpQuiet_nil ?_
              intro _ hw'
              obtain ⟨⟨dq, osq⟩, hw''⟩ := hw'
              subst hw''
              have hbl := (below_regrown wr dq osq)
              clear k0_' k1_' k2_' k3_'
              generalize Sort.grow (redrawn wr dq) osq = w3 at *
              have HB3 := Lib.hid (HBk.out.trans (hbl.mono HBk.out.size))
              clear hbl IBq
              go_wp2_with fail
              go_roundw
              case rel => exact ⟨k + 1, by omega, by go_num, HB3.out⟩
              case measure => simp [intOf]; omega
            · obtain rfl : k1 = k := by omega
              clear hb
              have hbk := HBk.out
              have KB := Lib.hid (KB.out.trans (hbk.mono KB.out.size))
              have HB110 := Lib.hid (HB102.out.trans (hbk.mono HB102.out.size))
              have BX111 := Lib.hid (BX103.out.old hbk)
              have BX112 := Lib.hid (BX104.out.old hbk)
              have BX113 := Lib.hid (BX105.out.old hbk)
              have BX114 := Lib.hid (BX106.out.old hbk)
              have BX115 := Lib.hid (BX107.out.old hbk)
              have RX116 := Lib.hid (RX108.out.next hbk)
              have RX117 := Lib.hid (RX109.out.next hbk)
              have kt0_ : wr.cell? ⟨V41.heap.size, 0, none⟩ = some (.int .i64 d1) := BX113.out.cell 0
              have kt1_ : wr.cell? ⟨V41.heap.size, 1, none⟩ = some (.slice At k1 ct) := BX113.out.cell 1
              go_wp2_with fail
              clear kt0_ kt1_
              refine (TT.out At ct hct wr RX117.out).mono ?_
              rintro e V118 ⟨vu, rfl, hou, h119⟩
              obtain ⟨Au, cu, rfl, hcu⟩ := slsa.capZ hou
              have KB := Lib.hid (KB.out.trans (h119.mono KB.out.size))
              have HB120 := Lib.hid (HB110.out.trans (h119.mono HB110.out.size))
              have BX121 := Lib.hid (BX111.out.old h119)
              have BX122 := Lib.hid (BX112.out.old h119)
              have BX123 := Lib.hid (BX113.out.old h119)
              have BX124 := Lib.hid (BX114.out.old h119)
              have BX125 := Lib.hid (BX115.out.old h119)
              have RX126 := Lib.hid (RX116.out.next h119)
              have RX127 := Lib.hid (RX117.out.next h119)
              have RX128 := Lib.hid (RdZ.of_own hou (own_len2 hou))
              clear hou
              have KB := Lib.hid (KB.out.trans (((Below.refl V118.heap.size V118).alloc (by first | exact Nat.le_refl _ | (simp only [World.size_alloc]; omega)) (.cells #[.int .i64 d1, .slice Au k1 cu] 42)).mono KB.out.size))
              have RX129 := Lib.hid (RX126.out.next ((Below.refl _ _).alloc (by first | exact Nat.le_refl _ | (simp only [World.size_alloc]; omega)) (.cells #[.int .i64 d1, .slice Au k1 cu] 42)))
              clear RX126
              have RX130 := Lib.hid (RX127.out.next ((Below.refl _ _).alloc (by first | exact Nat.le_refl _ | (simp only [World.size_alloc]; omega)) (.cells #[.int .i64 d1, .slice Au k1 cu] 42)))
              clear RX127
              have RX131 := Lib.hid (RX128.out.next ((Below.refl _ _).alloc (by first | exact Nat.le_refl _ | (simp only [World.size_alloc]; omega)) (.cells #[.int .i64 d1, .slice Au k1 cu] 42)))
              clear RX128
              have BX132 := Lib.hid (plce.at_next 42 #[.int .i64 d1, .slice Au k1 cu] HB120.out)
              have BX133 := Lib.hid (BX121.out.alloc (.cells #[.int .i64 d1, .slice Au k1 cu] 42))
              clear BX121
              have BX134 := Lib.hid (BX122.out.alloc (.cells #[.int .i64 d1, .slice Au k1 cu] 42))
              clear BX122
              have BX135 := Lib.hid (BX123.out.alloc (.cells #[.int .i64 d1, .slice Au k1 cu] 42))
              clear BX123
              have BX136 := Lib.hid (BX124.out.alloc (.cells #[.int .i64 d1, .slice Au k1 cu] 42))
              clear BX124
              have BX137 := Lib.hid (BX125.out.alloc (.cells #[.int .i64 d1, .slice Au k1 cu] 42))
              clear BX125
              clear HB120
              have HBn := Lib.hid BX132.out.1
              have HB138 := HBn
              clear HBn
              go_upto_region 30 with fail
              generalize (V118.alloc (.cells #[.int .i64 d1, .slice Au k1 cu] 42)) = W5 at *
              have ku0_ : W5.cell? ⟨V118.heap.size, 0, none⟩ = some (.int .i64 d1) := BX132.out.cell 0
              have ku1_ : W5.cell? ⟨V118.heap.size, 1, none⟩ = some (.slice Au k1 cu) := BX132.out.cell 1
              have ks0_ : W5.cell? ⟨V1.heap.size, 0, none⟩ = some (.int .i64 d1) := BX133.out.cell 0
              have ks1_ : W5.cell? ⟨V1.heap.size, 1, none⟩ = some (.slice (some ⟨b, o, none⟩) k1 c1) := BX133.out.cell 1
              go_wp2_with fail
              clear ku0_ ku1_ ks0_ ks1_
              refine (vsec.vSector d1 zs1 Au (some ⟨b, o, none⟩) k1 cu c1 W5 (by omega) RX131.out RX129.out).mono ?_
              rintro e Vz ⟨rfl, hz⟩
              have KB := Lib.hid (KB.out.trans (hz.mono KB.out.size))
              clear hz
              go_wp2_with fail
              go_meet
              exact KB.out
    case rest =>
      clear MS MX HSD HLZ n0 n1 n2
      clear BX38
      clear BX39
      clear RX40
      have hcx := hcut
      clear hcut
      have HB139 := Lib.hid (HB37.out.trans (hcx.mono HB37.out.size))
      clear HB37
      clear hcx
      go_wp2_with fail
      refine (drawy17.sectorsAt A n c wc hn (Bytes_below H.out HB139.out)).mono ?_
      rintro e V140 ⟨vl, ps, x2, y2, rfl, hq, hlen, hnc, h141⟩
      obtain ⟨Al, cl, rfl⟩ := hq.slice
      have HB142 := Lib.hid (HB139.out.trans (h141.mono HB139.out.size))
      clear HB139
      clear h141
      have RX143 := Lib.hid (hq.rd rfl)
      clear hq
      have HNC := Lib.hid (show ∀ (k : Nat) (p : slsa.Se), ps[k]? = some p → slsa.nc p ≤ 1048576 from fun k p h => Nat.le_trans (hnc p (List.mem_of_getElem? h)) (by omega))
      clear hnc
      have RX144 := Lib.hid (RX143.out.next ((Below.refl _ _).alloc (by first | exact Nat.le_refl _ | (simp only [World.size_alloc]; omega)) (.cells #[.int .i64 x2, .int .i64 y2] 31)))
      clear RX143
      have BX145 := Lib.hid (plce.at_next 31 #[.int .i64 x2, .int .i64 y2] HB142.out)
      clear HB142
      have HBn := Lib.hid BX145.out.1
      have HB146 := HBn
      clear HBn
      go_upto_region 33 with fail
      generalize (V140.alloc (.cells #[.int .i64 x2, .int .i64 y2] 31)) = W6 at *
      have LI := Lib.hid (fun (W : World) (h0 : slsa.RdS true W W.heap.size Al ps.length ps) => slsc.sectorsAt ps x2 y2 Al ps.length cl W (by omega) HNC.out h0)
      have LS := Lib.hid (fun (W : World) (h0 : slsa.RdS true W W.heap.size Al ps.length ps) => slsd.sectorsAt ps x2 y2 Al ps.length cl W (by omega) HNC.out h0)
      have hsl := slsr.satV_le ps ps.length x2 y2
      have n5 := bool_eq_self (slsr.satB ps ps.length x2 y2)
      generalize slsr.satV ps ps.length x2 y2 = L at *
      generalize slsr.satB ps ps.length x2 y2 = LB at *
      clear HNC
      have kq0_ : W6.cell? ⟨V140.heap.size, 0, none⟩ = some (.int .i64 x2) := BX145.out.cell 0
      have kq1_ : W6.cell? ⟨V140.heap.size, 1, none⟩ = some (.int .i64 y2) := BX145.out.cell 1
      go_wp2_with fail
      clear kq0_ kq1_
      refine (LI.out W6 RX144.out).mono ?_
      rintro e V147 ⟨vi, rfl, hoi, h148⟩
      obtain ⟨Ai, ci, rfl⟩ := own_sliceZ hoi
      have HB149 := Lib.hid (HB146.out.trans (h148.mono HB146.out.size))
      clear HB146
      have BX150 := Lib.hid (BX145.out.old h148)
      clear BX145
      have RX151 := Lib.hid (RX144.out.next h148)
      clear RX144
      clear h148
      have RX152 := Lib.hid (intc.rd_of_own hoi rfl)
      clear hoi
      have kq0_ : V147.cell? ⟨V140.heap.size, 0, none⟩ = some (.int .i64 x2) := BX150.out.cell 0
      have kq1_ : V147.cell? ⟨V140.heap.size, 1, none⟩ = some (.int .i64 y2) := BX150.out.cell 1
      go_wp2_with fail
      clear kq0_ kq1_
      refine (LS.out V147 RX151.out).mono ?_
      rintro e V153 ⟨vj, rfl, hoj, h154⟩
      obtain ⟨Aj, cj, rfl⟩ := own_sliceZ hoj
      have HB155 := Lib.hid (HB149.out.trans (h154.mono HB149.out.size))
      clear HB149
      have BX156 := Lib.hid (BX150.out.old h154)
      clear BX150
      have RX157 := Lib.hid (RX151.out.next h154)
      clear RX151
      have RX158 := Lib.hid (RX152.out.next h154)
      clear RX152
      clear h154
      have RX159 := Lib.hid (intc.rd_of_own hoj rfl)
      clear hoj
      clear LI LS
      go_wp2_with fail
      refine (vint.vInts L Ai Aj L.length ci cj V153 (by omega) RX158.out RX159.out).mono ?_
      rintro e wx ⟨rfl, j160, rfl⟩
      have h161 := aid.below_drewN (Below.refl V153.heap.size V153) j160
      generalize V153.drewN j160 = V162 at *
      have HB163 := Lib.hid (HB155.out.trans (h161.mono HB155.out.size))
      clear HB155
      have BX164 := Lib.hid (BX156.out.old h161)
      clear BX156
      have RX165 := Lib.hid (RX157.out.next h161)
      clear RX157
      have RX166 := Lib.hid (RX158.out.next h161)
      clear RX158
      have RX167 := Lib.hid (RX159.out.next h161)
      clear RX159
      clear h161
      go_wp2_with fail
      go_ret
      exact ⟨rfl, HB163.out⟩

theorem own : ownKnob Try.prog.godebug = none := by kernel_rfl
theorem laidOut : laidOutB Try.prog = true := by kernel_rfl

set_option maxRecDepth 100000 in
theorem lifted (os : Os) (started : os.Started) (H : Type) (enc : TypeId × Value → H) :
    ReturnsInHanded {} Try.checked os 4 .any (Rows.fnSectorsSpec.pre6 enc Try.prog Try.f4 Rows.fnSectorsRow.domain false) (Rows.fnSectorsSpec.post enc Try.prog Try.f4 false true false false) := by
  refine returnsInHanded_of_change (C := Try.checked) own started (by kernel_rfl) Try.func4
    (ChangeSpec.witness6 (enc := enc) (C := Try.checked) false ⟨#[], #[.slice none 0 0], []⟩ 8 (by kernel_rfl) (by kernel_rfl) (by kernel_rfl) (by kernel_rfl)) ?_
  intro W base args ds gs before hval0 hW hcnd _
  have hval : ∀ (j : Nat) t v, Try.f4.params[j]? = some t → args[j]? = some v → Value.okWide Try.prog W .any base t v := hval0
  have hW' := hW
  obtain ⟨p, q, hA0, hV, rfl, hfz, hnd⟩ := hW
  have hA : DataW.TrodAll enc Try.prog W 0 (fun _ => true) true Try.f4.params.toList args.toList ds p := hA0
  rw [Try.params4] at hA hval
  obtain ⟨v0, vs0, d0, ds0, p0, q0, hargs, rfl, rfl, h0, r0⟩ := trodAll_cons hA
  obtain ⟨rfl, rfl, rfl⟩ := trodAll_nil r0
  obtain rfl : args = #[v0] := by cases args; simp_all
  obtain ⟨rfl, rfl⟩ := trodVars_none hV
  obtain ⟨a0, len0, cap0, rfl⟩ := okWide_slice Try.underlying38 (hval 0 38 v0 rfl rfl)
  have k0 := h0
  have lt0 : ∀ x ∈ p0, x.block < W.heap.size := by obtain ⟨m, hm⟩ := k0; exact DataW.trod_lt m _ _ _ hm
  obtain ⟨z0, w0⟩ : ∃ zs, IsRow .u8 W a0 len0 cap0 zs := by
    obtain ⟨fuel, hf⟩ := h0
    rcases open_ints Try.underlying38 Try.underlying5 (by kernel_rfl) hf with ⟨hcs, _⟩ | ⟨x, l, c, zs, hcs, _, hl, hm, hz, _, hcell, hwz⟩
    · simp [Value.cells] at hcs
      obtain ⟨rfl, rfl, rfl⟩ := hcs
      exact ⟨[], .inl ⟨rfl, rfl, rfl, rfl⟩⟩
    · simp [Value.cells] at hcs
      obtain ⟨rfl, rfl, rfl⟩ := hcs
      exact ⟨zs, .inr ⟨_, rfl, hl, hm, by simpa using hz, hcell, hwz⟩⟩
  clear hA0 hval0
  refine (walk a0 len0 cap0 z0 W w0).mono fun e W' ⟨he, bel⟩ => ?_
  subst he
  exact ⟨_, rfl, _, _, _, [], _, [], hW', trodAll_mk1 (shut_bool Try.underlying4 _), (trodAll_cons_mk (Below.trod laidOut (by kernel_rfl) (of_decide_eq_true (by kernel_rfl)) k0 bel lt0) trodAll_mk0), rfl, bel.frame _, fun h => by cases h⟩

theorem over : Rows.fnSectorsRow.holds Try.pinned (OpenSpec.ofChange Rows.fnSectorsSpec) :=
  OpenClaim.holds_of_wide 4 Try.f4 rfl rfl rfl rfl rfl rfl rfl ⟨rfl, rfl, rfl, rfl, rfl⟩ rfl rfl rfl rfl rfl (by kernel_rfl) Try.func4 (by kernel_rfl)
    (of_decide_eq_true (by kernel_rfl)) (by unfold Func.isWrapper; first | (rw [if_pos (by decide +kernel)]; kernel_rfl) | (rw [if_neg (by decide +kernel)]; exact ⟨rfl, rfl⟩))
    (fun os started H enc _ => lifted os started H enc)

theorem proved : Rows.FnSectorsSaid :=
  over
#print axioms proved
end Go.Proofs.Ytkndfklbonkbiaa.fnSectors
