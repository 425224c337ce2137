/- spec's l1Same and BlindPoints: the keys that have come and how often each has come, two lists that grow in one loop. -/
import Derived.Test.YtpbopiecfnedgabBln
import Derived.Test.YtpbopiecfnedgabRws
import Derived.Test.YtpbopiecfnedgabIntC
import Derived.Test.YtpbopiecfnedgabSitT
import Derived.Test.YtpbopiecfnedgabSitS
import Derived.Test.YtpbopiecfnedgabTailH
import Derived.OwnWalk
namespace Go.Proofs.Ytpbopiecfnedgab.blns
open Go.RowKit Go.Proofs.Ytpbopiecfnedgab.ints Go.Proofs.Ytpbopiecfnedgab.lst Go.Proofs.Ytpbopiecfnedgab.ats Go.Proofs.Ytpbopiecfnedgab.intc Go.Proofs.Ytpbopiecfnedgab.sit Go.Proofs.Ytpbopiecfnedgab.loc Go.Proofs.Ytpbopiecfnedgab.bln Go.Proofs.Ytpbopiecfnedgab.rws Go.Proofs.Ytpbopiecfnedgab.tailh

theorem infoL : (Try.prog.info? 23).map (fun i => (i.zero, i.size, i.bytes)) = some (some (.slice none 0 0), 1, 24) := by kernel_rfl

set_option maxHeartbeats 400000 in
theorem same1 (xs ys : List Int) (A C : Option Addr) (n c d : Nat) (w : World) (hn : n ≤ 1048577) (h1 : RdI w w.heap.size A n xs) (h2 : RdI w w.heap.size C n ys) :
    Calls Try.prog 78 #[.slice A n c, .slice C n d] w fun e w' => e = .returned (.bool (decide (xs = ys))) ∧ ∃ j, w' = w.drewN j := by
  have hs0 := int_ne_self (n : Int)
  have HLX := Lib.hid h1.1
  have HLY := Lib.hid h2.1
  go_enter Try.func78, Try.ntmps78
  go_wp2
  go_loopw [5] (fun i wr => ∃ k j : Nat, k ≤ n ∧ i = .int .i64 k ∧ wr = w.drewN j ∧ xs.take k = ys.take k) (fun i _ => n - (intOf i).toNat)
  case atStart => exact ⟨0, 0, Nat.zero_le _, rfl, rfl, by rw [List.take_zero, List.take_zero]⟩
  case round =>
    obtain ⟨k, j, hk, rfl, rfl, he⟩ := hrel
    have HE := Lib.hid he
    clear he
    by_cases hlt : k < n
    · obtain ⟨b1, o1, x, rfl, _, hx, e1⟩ := h1.at_ hlt
      obtain ⟨b2, o2, y, rfl, _, hy, e2⟩ := h2.at_ hlt
      have hlt2 : (k : Int) < (n : Int) := by omega
      have HN := Lib.hid (show xs.take (k + 1) = ys.take (k + 1) ↔ x = y from by
        rw [List.take_add_one, List.take_add_one, hx, hy, HE.out]
        simp)
      have HNE := Lib.hid (show x ≠ y → xs ≠ ys from fun h e => h (by rw [e, hy] at hx; exact (Option.some.inj hx).symm))
      clear h1 h2 hx hy hs0
      by_cases hxy : x = y
      · have hs : (x != y) = false := by rw [hxy]; simp
        have HK := Lib.hid (HN.out.2 hxy)
        clear hxy HNE HN
        go_wp2_with fail
        go_quiet (fail)
        go_wp2
        go_roundw
        case rel => exact ⟨k + 1, _, by omega, by go_num, by first | rfl | rw [World.drewN_drewN], HK.out⟩
        case measure => (simp [intOf]; try omega)
      · have hs : (x != y) = true := by simpa using hxy
        have HD := Lib.hid (decide_eq_false (HNE.out hxy))
        clear hxy HNE HN
        go_wp2_with fail
        go_quiet (fail)
        go_wp2
        go_ret
        exact ⟨by rw [HD.out]; rfl, _, by first | rfl | rw [World.drewN_drewN]⟩
    · obtain rfl : k = n := by omega
      have HD := Lib.hid (show decide (xs = ys) = true from decide_eq_true (by
        have := HE.out
        rw [List.take_of_length_le (by rw [HLX.out]; exact Nat.le_refl _), List.take_of_length_le (by rw [HLY.out]; exact Nat.le_refl _)] at this
        exact this))
      clear h1 h2
      go_wp2
      go_ret
      exact ⟨by rw [HD.out]; rfl, j, rfl⟩

/-- A list of keys and a list of numbers, both of the call's own, and no key's row is the numbers'. -/
def SB (B : Nat) (W : World) (v4 v5 : Value) (S : List (List Int)) (T : List Int) : Prop :=
  ∃ us, W.ownsRow B 23 1 v4 S.length us ∧ Ins B 3 1 W us (S.map cellsI) ∧ W.ownsRow B 3 1 v5 T.length (cellsI T) ∧ ∀ (i : Nat) (u : Value) (g : Nat), us[i]? = some u → u.ownBlock = some g → v5.ownBlock ≠ some g
section
variable {B : Nat} {W W' : World} {v4 v5 v' : Value} {S : List (List Int)} {T : List Int} {us : List Value}
theorem SB.below (h : SB B W v4 v5 S T) (hb : Below W.heap.size W W') : SB B W' v4 v5 S T := by
  obtain ⟨us, h1, h2, h3, h4⟩ := h
  exact ⟨us, own_.own_below h1 hb, h2.below hb, own_.own_below h3 hb, h4⟩
theorem SB.slices (h : SB B W v4 v5 S T) : (∃ A c, v4 = .slice A S.length c) ∧ ∃ A c, v5 = .slice A T.length c := by
  obtain ⟨us, h1, h2, h3, h4⟩ := h
  exact ⟨own_sliceZ h1, own_sliceZ h3⟩
theorem SB.read (h : SB B W v4 v5 S T) {j : Nat} {x : List Int} (hx : S[j]? = some x) : ∃ ob oc A c, v4 = .slice (some ⟨ob, 0, none⟩) S.length oc ∧ W.cell? ⟨ob, j, none⟩ = some (.slice A x.length c) ∧ RdI W W.heap.size A x.length x := by
  obtain ⟨us, h1, h2, -, -⟩ := h
  have hg : Gr B 23 3 1 W v4 (S.map cellsI) := ⟨us, by rw [List.length_map]; exact h1, h2⟩
  obtain ⟨ob, oc, u, e, -, -, hc, -, ho⟩ := hg.at_ (i := j) (k := x.length) (r := cellsI x) (by rw [List.getElem?_map, hx]; rfl) (by decide) (by simp [cellsI])
  obtain ⟨A, c, rfl⟩ := own_sliceZ ho
  rw [List.length_map] at e
  exact ⟨ob, oc, A, c, e, hc, rd_of_own ho rfl⟩
theorem SB.push (h1 : W.ownsRow B 23 1 v4 S.length us) (h2 : Ins B 3 1 W us (S.map cellsI)) (h3 : W.ownsRow B 3 1 v5 T.length (cellsI T)) (h4 : ∀ (i : Nat) (u : Value) (g : Nat), us[i]? = some u → u.ownBlock = some g → v5.ownBlock ≠ some g)
    {u : Value} {x : List Int} {n : Nat} (hu : W.ownsRow B 3 1 u n (cellsI x)) (h5 : ∀ g, u.ownBlock = some g → (∀ (i : Nat) (u' : Value), us[i]? = some u' → u'.ownBlock ≠ some g) ∧ v5.ownBlock ≠ some g)
    (hg : W.grownBy W' v4.ownBlock) (ho : W'.ownsRow B 23 1 v' (S.length + 1) (us ++ [u])) : SB B W' v' v5 (S ++ [x]) T := by
  have hp := h2.push hu (fun g i u' e1 e2 => (h5 g e1).1 i u' e2)
  refine ⟨us ++ [u], by rw [List.length_append]; exact ho, ?_, own_kept_at h3 hg (fun g e1 e2 => rws.apart h3 h1 (by decide) e1 e2), ?_⟩
  · rw [List.map_append]
    exact hp.kept hg (hp.apart h1 (by decide))
  · intro i u' g e1 e2
    rcases Nat.lt_or_ge i us.length with hi | hi
    · rw [List.getElem?_append_left hi] at e1
      exact h4 i u' g e1 e2
    · rw [List.getElem?_append_right hi] at e1
      have : u' = u := by
        cases hk : i - us.length with
        | zero => rw [hk] at e1; simpa using e1.symm
        | succ m => rw [hk] at e1; simp at e1
      subst this
      exact (h5 g e2).2
theorem SB.tick (h : SB B W v4 v5 S T) {z : Int} (hg : W.grownBy W' v5.ownBlock) (ho : W'.ownsRow B 3 1 v' (T.length + 1) (cellsI T ++ [.int .i64 z])) (hv : v'.ownBlock = v5.ownBlock ∨ v'.ownBlock = some W.heap.size) : SB B W' v4 v' S (T ++ [z]) := by
  obtain ⟨us, h1, h2, h3, h4⟩ := h
  refine ⟨us, own_kept_at h1 hg (fun g e1 e2 => rws.apart h1 h3 (by decide) e1 e2), h2.kept hg (fun g i u e hu hb => h4 i u g hu hb e), ?_, fun i u g hu e1 e2 => ?_⟩
  · rw [List.length_append]
    unfold cellsI at ho ⊢
    rw [List.map_append]
    exact ho
  · rcases hv with hv | hv
    · exact h4 i u g hu e1 (hv.symm.trans e2)
    · have := hv.symm.trans e2
      injection this with this
      have := h2.lt hu e1
      omega
theorem SB.bump {g5 c5 k : Nat} {z : Int} (h : SB B W v4 (.slice (some ⟨g5, 0, none⟩) T.length c5) S T) : SB B (W.setCell ⟨g5, k, none⟩ (.int .i64 z)) v4 (.slice (some ⟨g5, 0, none⟩) T.length c5) S (T.set k z) := by
  obtain ⟨us, h1, h2, h3, h4⟩ := h
  have hg : W.grownBy (W.setCell ⟨g5, k, none⟩ (.int .i64 z)) (some g5) := grown_set (grown_refl W (some g5)) k (.int .i64 z)
  refine ⟨us, own_kept_at h1 hg (fun g e1 e2 => rws.apart h1 h3 (by decide) e1 e2), h2.kept hg (fun g i u e hu hb => h4 i u g hu hb e), ?_, h4⟩
  have hs := (h3.stored k (.int .i64 z)).1
  rw [List.length_set]
  unfold cellsI at hs ⊢
  rw [← List.map_set] at hs
  exact hs
end

def mix (xs ys : List Int) (j : Nat) : List Int := ys.take j ++ xs.drop j
theorem mix_all {xs ys : List Int} {n : Nat} (hx : xs.length = n) (hy : ys.length = n) : mix xs ys n = ys := by
  unfold mix
  rw [List.take_of_length_le (by omega), List.drop_eq_nil_of_le (by omega), List.append_nil]
theorem mix_zero (xs ys : List Int) : mix xs ys 0 = xs := by simp [mix]
theorem mix_at {xs ys : List Int} {j k : Nat} {y : Int} (hk : k < j) (h : ys[k]? = some y) : (mix xs ys j)[k]? = some y := by
  have hl := (List.getElem?_eq_some_iff.1 h).1
  unfold mix
  rw [List.getElem?_append_left (by rw [List.length_take]; omega), List.getElem?_take, if_pos hk]
  exact h
theorem mix_set {xs ys : List Int} {n j : Nat} {x : Int} (hy : ys.length = n) (hj : j < n) (h : xs[j]? = some x) : (cellsI (mix xs ys (j + 1))).set j (.int .i64 x) = cellsI (mix xs ys j) := by
  have hl := (List.getElem?_eq_some_iff.1 h).1
  have hv := (List.getElem?_eq_some_iff.1 h).2
  unfold mix cellsI
  rw [← List.map_set]
  congr 1
  have h1 : (ys.take j).length = j := by rw [List.length_take]; omega
  rw [List.take_succ_eq_append_getElem (by omega : j < ys.length), List.append_assoc, List.set_append, if_neg (by omega), h1, Nat.sub_self]
  show _ ++ (x :: xs.drop (j + 1)) = _
  rw [List.drop_eq_getElem_cons hl, hv]
theorem ky_at {zs : List Int} {n k j : Nat} (h : j < n) : (kyT zs n k)[j]? = some (ds zs (pX k) (pY k) j - ds zs (pX k) (pY k) 0) := by
  unfold kyT
  rw [List.getElem?_map, List.getElem?_range h]; rfl
theorem own_len1 {w : World} {B e n : Nat} {v : Value} {xs : List Int} (h : w.ownsRow B e 1 v n (cellsI xs)) : xs.length = n := by have := h.1; unfold cellsI at this; simpa using this


section
variable {B : Nat} {W W' : World} {v4 v5 v' : Value} {S : List (List Int)} {T : List Int} {us : List Value}
theorem SB.begin (h : SB B W v4 v5 S T) {Wq : World} {u : Value} {x : List Int} {n : Nat} (hB : B ≤ W.heap.size) (hb : Below W.heap.size W Wq) (hu : Wq.ownsRow W.heap.size 3 1 u n (cellsI x)) (blk : Obj) :
    ∃ us, (Wq.alloc blk).ownsRow B 23 1 v4 S.length us ∧ ∀ (v' : Value) (W' : World), (Wq.alloc blk).grownBy W' v4.ownBlock → W'.ownsRow B 23 1 v' (S.length + 1) (us ++ [u]) → SB B W' v' v5 (S ++ [x]) T := by
  obtain ⟨us, h1, h2, h3, h4⟩ := h
  have hbb : Below W.heap.size W (Wq.alloc blk) := hb.alloc hb.size _
  refine ⟨us, own_.own_below h1 hbb, fun v' W' hg ho => ?_⟩
  refine SB.push (own_.own_below h1 hbb) (h2.below hbb) (own_.own_below h3 hbb) h4 ((own_.own_base hu hB).alloc _) (fun g e => ?_) hg ho
  have hge := (hu.lt g e).1
  exact ⟨fun i u' e1 e2 => by have := h2.lt e1 e2; omega, fun e2 => by have := (h3.lt g e2).2; omega⟩
theorem SB.times (h : SB B W v4 v5 S T) : W.ownsRow B 3 1 v5 T.length (cellsI T) := by
  obtain ⟨us, h1, h2, h3, h4⟩ := h
  exact h3
theorem SB.keys (h : SB B W v4 v5 S T) : ∃ us, W.ownsRow B 23 1 v4 S.length us := by
  obtain ⟨us, h1, h2, h3, h4⟩ := h
  exact ⟨us, h1⟩
end
theorem below_drewN {B : Nat} {a w : World} (h : Below B a w) (j : Nat) : Below B a (w.drewN j) := ⟨h.os, h.tape, h.output, h.size, h.block⟩
theorem cell_new1 (w : World) (u : Value) (e : TypeId) : ∀ (j : Nat) (u' : Value), [u][j]? = some u' → (w.alloc (.cells #[u] e)).cell? (Addr.add ⟨w.heap.size, 0, none⟩ j) = some u' := lst.cells_new w e #[u]
end Go.Proofs.Ytpbopiecfnedgab.blns
