/- For every code of at most 65536 bytes (and trivially for a longer one) the law FnPlotTexts returns true: texts of plots and what is read of texts are the model's, a valid plot is recovered from its text, the counts of sites and the lonely sightings are the model's, the counts add up to the sightings, and a sighting is lonely exactly if its group's number occurs once. The card ties the three tables of strconv and math/bits to the program. No condition of mine. -/
import Derived.Test.YtdjcbfeilkepmaaDoorPltM
import Derived.Test.YtdjcbfeilkepmaaDoorIntC
import Derived.Deep.CutRange
import Derived.Test.YtdjcbfeilkepmaaDoorInts
import Derived.Test.YtdjcbfeilkepmaaDoorPosX
import Derived.BigQuiet
import Derived.Deep.QuietTactic
import Derived.Test.YtdjcbfeilkepmaaDoorPltJ
import Derived.Test.YtdjcbfeilkepmaaDoorTailH
import Derived.OwnWalk
import Derived.Test.YtdjcbfeilkepmaaDoorPltG
import Derived.Test.YtdjcbfeilkepmaaDoorPtxI
import Derived.Test.YtdjcbfeilkepmaaDoorDrawS13
import Derived.Test.YtdjcbfeilkepmaaDoorDrawP7
import Derived.Test.YtdjcbfeilkepmaaDoorCurBits
import Derived.Test.YtdjcbfeilkepmaaDoorRws
import Derived.Test.YtdjcbfeilkepmaaDoorPtxT
import Derived.Test.YtdjcbfeilkepmaaDoorRows
import Derived.Test.YtdjcbfeilkepmaaDoorCards
import Derived.Test.YtdjcbfeilkepmaaDoorTie
import Derived.Test.YtdjcbfeilkepmaaDoorPltI
import Derived.Test.YtdjcbfeilkepmaaDoorPltU
import Derived.Stop.LaidErr
import Derived.Deep.DeepHandedRow
import Derived.Lib.LaidTab
import Derived.OpenVars
import Derived.WalkKit
import Derived.ProofKit
import Derived.OpenShut
import Derived.ShutString
import Derived.ChangeOld
import Derived.Below
import Derived.Deep.RegionHeld3
import Derived.Deep.CutBlock

/- Mathematics of FnPlotTexts: the counts of sites add up, lonely sightings are those whose number occurs once; contracts of the laws' rSum and rHas. -/
namespace Go.Proofs.YtdjcbfeilkepmaaDoor.ptxm
open Go.RowKit Go.Proofs.YtdjcbfeilkepmaaDoor.ints Go.Proofs.YtdjcbfeilkepmaaDoor.lst Go.Proofs.YtdjcbfeilkepmaaDoor.plt Go.Proofs.YtdjcbfeilkepmaaDoor.pltm

theorem sm_set {xs : List Int} {s : Nat} {u v : Int} (hs : xs[s]? = some v) : ∀ n, smT (xs.set s u) n = smT xs n + if s < n then u - v else 0
  | 0 => by simp [smT]
  | n + 1 => by
    have hl := (List.getElem?_eq_some_iff.1 hs).1
    rw [smT, smT, sm_set hs n]
    by_cases h : s = n
    · subst h
      rw [if_neg (Nat.lt_irrefl _), if_pos (Nat.lt_succ_self _), List.getD_eq_getElem?_getD, List.getD_eq_getElem?_getD, List.getElem?_set, if_pos rfl, if_pos hl, hs]
      show smT xs s + 0 + u = smT xs s + v + (u - v)
      omega
    · rw [List.getD_eq_getElem?_getD, List.getD_eq_getElem?_getD, List.getElem?_set, if_neg h]
      by_cases h2 : s < n
      · rw [if_pos h2, if_pos (by omega)]; omega
      · rw [if_neg h2, if_neg (by omega)]; omega
theorem cn_sum {zs : List Int} {n : Nat} (h : svB zs n = true) : ∀ k, k ≤ n → smT (cnT zs k) 9 = (k : Int)
  | 0, _ => by rw [cnT_zero]; rfl
  | k + 1, hk => by
    have h1 := (sv_at h (show k < n by omega)).2.1
    obtain ⟨s, hs⟩ : ∃ s : Nat, fld 5 zs k 1 = ((s + 1 : Nat) : Int) := ⟨(fld 5 zs k 1 - 1).toNat, by omega⟩
    have hs9 : s < 9 := by omega
    obtain ⟨v, hv, -, -, he⟩ := cnT_get (zs := zs) (k := k) hs9
    rw [← he hs, sm_set hv, if_pos hs9, cn_sum h k (by omega)]
    omega
/-- A number occurs among the first k of a list. -/
def hb (xs : List Int) (x : Int) : Nat → Bool
  | 0 => false
  | k + 1 => hb xs x k || (xs.getD k 0 == x)
theorem hb_mem {xs : List Int} {x : Int} : ∀ k, k ≤ xs.length → (hb xs x k = true ↔ x ∈ xs.take k)
  | 0, _ => by simp [hb]
  | k + 1, hk => by
    have e : xs[k]? = some (xs.getD k 0) := by rw [List.getD_eq_getElem?_getD, List.getElem?_eq_getElem (by omega)]; rfl
    rw [hb, Bool.or_eq_true, hb_mem k (by omega), List.take_add_one, e, beq_iff_eq]
    simp [eq_comm]
/-- How often a number occurs among the first k of a list. -/
def ct (xs : List Int) (x : Int) : Nat → Nat
  | 0 => 0
  | k + 1 => ct xs x k + if xs.getD k 0 = x then 1 else 0
theorem ct_le (xs : List Int) (x : Int) : ∀ k, ct xs x k ≤ k
  | 0 => Nat.le_refl _
  | k + 1 => by rw [ct]; have := ct_le xs x k; split <;> omega
theorem gsT_get {zs : List Int} {w r : Int} {n k : Nat} (hk : k < n) : (gsT zs w r n).getD k 0 = ((num zs w r k : Nat) : Int) := by
  unfold gsT
  rw [List.getD_eq_getElem?_getD, List.getElem?_map, List.getElem?_range hk]; rfl
theorem ct_num {zs : List Int} {w r : Int} {n g : Nat} : ∀ k, k ≤ n → ct (gsT zs w r n) ((g : Nat) : Int) k = ((List.range k).filter fun i => num zs w r i == g).length
  | 0, _ => by simp [ct]
  | k + 1, hk => by
    rw [ct, ct_num k (by omega), gsT_get (by omega), List.range_succ, List.filter_append, List.length_append]
    by_cases h : num zs w r k = g
    · rw [if_pos (by rw [h]), List.filter_cons_of_pos (by simpa using h)]; rfl
    · rw [if_neg (by omega), List.filter_cons_of_neg (by simpa using h)]; rfl
/-- What the law asks of sighting i. -/
theorem lonely {zs : List Int} {w r : Int} {n i : Nat} (hi : i < n) : hb (loT zs n w r n) (i : Int) (loT zs n w r n).length = (((ct (gsT zs w r n) ((num zs w r i : Nat) : Int) n : Nat) : Int) == 1) := by
  have hg := num_lt (zs := zs) (w := w) (r := r) i hi
  have hq := grp_at (zs := zs) (w := w) (r := r) (k := n) _ hg
  have e1 : ((grp zs w r n).getD (num zs w r i) []).length = ct (gsT zs w r n) ((num zs w r i : Nat) : Int) n := by
    rw [ct_num n (Nat.le_refl _), List.getD_eq_getElem?_getD, hq]; rfl
  have e2 : hb (loT zs n w r n) (i : Int) (loT zs n w r n).length = true ↔ ct (gsT zs w r n) ((num zs w r i : Nat) : Int) n = 1 := by
    rw [hb_mem _ (Nat.le_refl _), List.take_length, loT_mem, ← e1]
    constructor
    · rintro ⟨j, -, h2, h3⟩
      obtain rfl : i = j := by omega
      exact h2
    · intro h
      exact ⟨i, hi, h, rfl⟩
  cases hc : (((ct (gsT zs w r n) ((num zs w r i : Nat) : Int) n : Nat) : Int) == 1)
  · cases hb' : hb (loT zs n w r n) (i : Int) (loT zs n w r n).length
    · rfl
    · have := e2.1 hb'
      rw [this] at hc
      cases hc
  · refine e2.2 ?_
    rw [beq_iff_eq] at hc
    omega

set_option maxHeartbeats 400000 in
theorem rSum (xs : List Int) (A : Option Addr) (n c : Nat) (w : World) (hn : n ≤ 1048576) (hx : ∀ k, k ≤ n → 0 ≤ smT xs k ∧ smT xs k ≤ 1000000) (h1 : RdI w w.heap.size A n xs) :
    Calls Tryd.prog 20 #[.slice A n c] w fun e w' => e = .returned (.int .i64 (smT xs n)) ∧ w = w' := by
  have HX := Lib.hid hx
  clear hx
  go_enter Tryd.func20, Tryd.ntmps20
  go_wp2_with fail
  go_loop [3, 4] (fun s i => ∃ k : Nat, k ≤ n ∧ i = .int .i64 k ∧ s = .int .i64 (smT xs k)) (fun _ i => n - (intOf i).toNat)
  case atStart => exact ⟨0, Nat.zero_le _, rfl, rfl⟩
  case round =>
    obtain ⟨k, hk, rfl, rfl⟩ := hrel
    by_cases hlt : k < n
    · obtain ⟨b1, o1, x, rfl, _, hxx, e1⟩ := h1.at_ hlt
      have hlt2 : (k : Int) < (n : Int) := by omega
      have hs := HX.out (k + 1) (by omega)
      have hE : smT xs (k + 1) = smT xs k + x := by rw [smT, List.getD_eq_getElem?_getD, hxx]; rfl
      have HE := Lib.hid hE
      rw [hE] at hs
      have e2 : IntKind.i64.wrap (smT xs k + x) = smT xs k + x := IntWalk.i64_in _ (by omega)
      clear h1 hxx hE
      generalize smT xs k = S at *
      go_wp2_with fail
      go_round
      case rel => exact ⟨k + 1, by omega, by go_num, by rw [HE.out]⟩
      case measure => simp [intOf]; omega
    · obtain rfl : k = n := by omega
      clear h1
      go_wp2_with fail
      go_ret
      exact ⟨rfl, rfl⟩
set_option maxHeartbeats 400000 in
theorem rHas (xs : List Int) (x : Int) (A : Option Addr) (n c : Nat) (w : World) (hn : n ≤ 1048576) (h1 : RdI w w.heap.size A n xs) :
    Calls Tryd.prog 25 #[.slice A n c, .int .i64 x] w fun e w' => e = .returned (.bool (hb xs x n)) ∧ w = w' := by
  have HT := Lib.hid (fun k (hk : k < n) (h : hb xs x (k + 1) = true) => show hb xs x n = true from by
    have : ∀ m, k + 1 ≤ m → hb xs x m = true := by
      intro m hm
      induction m with
      | zero => omega
      | succ m ih =>
        rcases Nat.lt_or_ge m (k + 1) with h2 | h2
        · obtain rfl : m = k := by omega
          exact h
        · rw [hb, ih h2]; rfl
    exact this n hk)
  go_enter Tryd.func25, Tryd.ntmps25
  go_wp2_with fail
  go_loop [5] (fun i => ∃ k : Nat, k ≤ n ∧ i = .int .i64 k ∧ hb xs x k = false) (fun i => n - (intOf i).toNat)
  case atStart => exact ⟨0, Nat.zero_le _, rfl, rfl⟩
  case round =>
    obtain ⟨k, hk, rfl, hf⟩ := hrel
    by_cases hlt : k < n
    · obtain ⟨b1, o1, y, rfl, _, hxx, e1⟩ := h1.at_ hlt
      have hlt2 : (k : Int) < (n : Int) := by omega
      have HE := Lib.hid (show hb xs x (k + 1) = (y == x) by rw [hb, hf, List.getD_eq_getElem?_getD, hxx]; rfl)
      have HTk := Lib.hid (HT.out k hlt)
      clear h1 hxx hf HT
      by_cases hyx : y = x
      · have g : (y == x) = true := by rw [hyx]; simp
        have HR := Lib.hid (HTk.out (by rw [HE.out, g]))
        clear hyx HE HTk
        go_wp2_with fail
        go_ret
        exact ⟨by rw [HR.out]; rfl, rfl⟩
      · have g : (y == x) = false := by simpa using hyx
        have HF := Lib.hid (show hb xs x (k + 1) = false by rw [HE.out, g])
        clear hyx HE HTk
        go_wp2_with fail
        go_round
        case rel => exact ⟨k + 1, by omega, by go_num, HF.out⟩
        case measure => simp [intOf]; omega
    · obtain rfl : k = n := by omega
      have HF := Lib.hid hf
      clear h1 hf HT
      go_wp2_with fail
      go_ret
      exact ⟨by rw [HF.out]; rfl, rfl⟩
end Go.Proofs.YtdjcbfeilkepmaaDoor.ptxm

/- The laws' rInts and rPlot at equal lists and plots. -/
namespace Go.Proofs.YtdjcbfeilkepmaaDoor.rpl
open Go.RowKit Go.Proofs.YtdjcbfeilkepmaaDoor.ints Go.Proofs.YtdjcbfeilkepmaaDoor.ats

set_option maxHeartbeats 400000 in
theorem rInts (xs : List Int) (A C : Option Addr) (n c d : Nat) (w : World) (hn : n ≤ 1048577) (h1 : RdI w w.heap.size A n xs) (h2 : RdI w w.heap.size C n xs) :
    Calls Tryd.prog 18 #[.slice A n c, .slice C n d] w fun e w' => e = .returned (.bool true) ∧ ∃ j, w' = w.drewN j := by
  have hs0 := int_ne_self (n : Int)
  go_enter Tryd.func18, Tryd.ntmps18
  go_wp2
  go_loopw [5] (fun i wr => ∃ k j : Nat, k ≤ n ∧ i = .int .i64 k ∧ wr = w.drewN j) (fun i _ => n - (intOf i).toNat)
  case atStart => exact ⟨0, 0, Nat.zero_le _, rfl, rfl⟩
  case round =>
    obtain ⟨k, j, hk, rfl, rfl⟩ := hrel
    by_cases hlt : k < n
    · obtain ⟨b1, o1, x, rfl, _, hx, e1⟩ := h1.at_ hlt
      obtain ⟨b2, o2, y, rfl, _, hy, e2⟩ := h2.at_ hlt
      obtain rfl : x = y := Option.some.inj (hx.symm.trans hy)
      have hlt2 : (k : Int) < (n : Int) := by omega
      have hs := int_ne_self x
      clear h1 h2 hx hy hs0
      go_wp2_with fail
      go_quiet (fail)
      go_wp2
      go_roundw
      case rel => exact ⟨k + 1, _, by omega, by go_num, by first | rfl | rw [World.drewN_drewN]⟩
      case measure => simp [intOf]; omega
    · clear h1 h2
      go_wp2
      go_ret
      exact ⟨rfl, j, rfl⟩

theorem int_eq_self (b : Int) : (b == b) = true := by simp
set_option maxRecDepth 100000 in
set_option maxHeartbeats 2000000 in
theorem rPlot (s a x y : Int) (xs : List Int) (A C : Option Addr) (n c d : Nat) (w : World) (hn : n ≤ 1048577) (h1 : RdI w w.heap.size A n xs) (h2 : RdI w w.heap.size C n xs) :
    Calls Tryd.prog 12 #[.agg #[.int .i64 s, .int .i64 a, .int .i64 x, .int .i64 y, .slice A n c], .agg #[.int .i64 s, .int .i64 a, .int .i64 x, .int .i64 y, .slice C n d]] w fun e w' => e = .returned (.bool true) ∧ Below w.heap.size w w' := by
  have B0 := Lib.hid ((newS 28 #[.int .i64 s, .int .i64 a, .int .i64 x, .int .i64 y, .slice A n c] w).alloc (.cells #[.int .i64 s, .int .i64 a, .int .i64 x, .int .i64 y, .slice C n d] 28))
  have D0 := (newS 28 #[.int .i64 s, .int .i64 a, .int .i64 x, .int .i64 y, .slice A n c] w).next 28 #[.int .i64 s, .int .i64 a, .int .i64 x, .int .i64 y, .slice C n d]
  rw [World.size_alloc] at D0
  have D0 := Lib.hid D0
  have E := Lib.hid (rInts xs A C n c d _ hn (h1.next B0.out.1) (h2.next B0.out.1))
  have q1 := int_eq_self s
  have q2 := int_eq_self a
  have q3 := int_eq_self x
  have q4 := int_eq_self y
  clear h1 h2
  go_enter Tryd.func12, Tryd.ntmps12
  go_upto_region 1 with fail
  generalize (w.alloc (.cells #[.int .i64 s, .int .i64 a, .int .i64 x, .int .i64 y, .slice A n c] 28)).alloc (.cells #[.int .i64 s, .int .i64 a, .int .i64 x, .int .i64 y, .slice C n d] 28) = W at *
  have p0 : W.cell? ⟨w.heap.size, 0, none⟩ = some (.int .i64 s) := B0.out.cell 0
  have p1 : W.cell? ⟨w.heap.size, 1, none⟩ = some (.int .i64 a) := B0.out.cell 1
  have p2 : W.cell? ⟨w.heap.size, 2, none⟩ = some (.int .i64 x) := B0.out.cell 2
  have p3 : W.cell? ⟨w.heap.size, 3, none⟩ = some (.int .i64 y) := B0.out.cell 3
  have p4 : W.cell? ⟨w.heap.size, 4, none⟩ = some (.slice A n c) := B0.out.cell 4
  have q0 : W.cell? ⟨(w.heap.size + 1), 0, none⟩ = some (.int .i64 s) := D0.out.cell 0
  have q1 : W.cell? ⟨(w.heap.size + 1), 1, none⟩ = some (.int .i64 a) := D0.out.cell 1
  have q2 : W.cell? ⟨(w.heap.size + 1), 2, none⟩ = some (.int .i64 x) := D0.out.cell 2
  have q3 : W.cell? ⟨(w.heap.size + 1), 3, none⟩ = some (.int .i64 y) := D0.out.cell 3
  have q4 : W.cell? ⟨(w.heap.size + 1), 4, none⟩ = some (.slice C n d) := D0.out.cell 4
  go_wp2_with fail
  refine E.out.mono ?_
  rintro e w1 ⟨rfl, j, rfl⟩
  have HE := Lib.hid (aid.below_drewN B0.out.1 j)
  go_wp2_with fail
  go_ret
  exact ⟨rfl, HE.out⟩
end Go.Proofs.YtdjcbfeilkepmaaDoor.rpl

/- impl's groupsOf. -/
namespace Go.Proofs.YtdjcbfeilkepmaaDoor.pltk
open Go.RowKit Go.Proofs.YtdjcbfeilkepmaaDoor.ints Go.Proofs.YtdjcbfeilkepmaaDoor.lst Go.Proofs.YtdjcbfeilkepmaaDoor.in_ Go.Proofs.YtdjcbfeilkepmaaDoor.ats Go.Proofs.YtdjcbfeilkepmaaDoor.pos Go.Proofs.YtdjcbfeilkepmaaDoor.plt Go.Proofs.YtdjcbfeilkepmaaDoor.pltm Go.Proofs.YtdjcbfeilkepmaaDoor.plte Go.Proofs.YtdjcbfeilkepmaaDoor.plti Go.Proofs.YtdjcbfeilkepmaaDoor.pltj Go.Proofs.YtdjcbfeilkepmaaDoor.rws Go.Proofs.YtdjcbfeilkepmaaDoor.tailh

theorem infoG : (Tryd.prog.info? 72).map (fun i => (i.zero, i.size, i.bytes)) = some (some (.agg #[.int .i64 0, .int .i64 0, .int .i64 0, .int .i64 0, .int .i64 0]), 5, 40) := by kernel_rfl
theorem infoGS : (Tryd.prog.info? 37).map (fun i => (i.zero, i.size, i.bytes)) = some (some (.slice none 0 0), 1, 24) := by kernel_rfl
theorem five_cells (a b c d e : Int) : ∀ u ∈ [Value.int .i64 a, .int .i64 b, .int .i64 c, .int .i64 d, .int .i64 e], u.oneCell' = true := by
  intro u hu
  simp at hu
  rcases hu with rfl | rfl | rfl | rfl | rfl <;> rfl
theorem put_grown {G : List (List Nat)} {p k : Nat} (hp : ¬ p < G.length) (hl : p ≤ G.length) : (G ++ [[]])[p]? = some [] ∧ put G p k = (G ++ [[]]).set p ([] ++ [k]) := by
  obtain rfl : p = G.length := by omega
  refine ⟨by simp, ?_⟩
  rw [put_end, List.set_append, if_neg (Nat.lt_irrefl _), Nat.sub_self]; rfl

set_option maxRecDepth 100000 in
set_option maxHeartbeats 8000000 in
theorem groupsOf (zs : List Int) (ww r : Int) (A : Option Addr) (n c : Nat) (w : World) (hn : n ≤ 1048577) (h1 : RdZ 5 w w.heap.size A n zs) :
    Calls Tryd.prog 53 #[.slice A n c, .int .i64 ww, .int .i64 r] w fun e w' => ∃ v1 v2, e = .returned (.tuple #[v1, v2, .bool (asB zs n ww r)]) ∧ w'.ownsRow w.heap.size 3 1 v1 (gsV zs n ww r).length (cellsI (gsV zs n ww r)) ∧ GI zs w.heap.size w' v2 (ggV zs n ww r) ∧ Below w.heap.size w w' := by
  have H := fun (W : World) (hb : Below w.heap.size w W) => isValidSightings zs A n c W hn (h1.next hb)
  have S1 := Lib.hid ((newS 3 #[.int .i64 ww] w).alloc (.cells #[.int .i64 r] 3))
  have S2 := Lib.hid ((newS 3 #[.int .i64 ww] w).next 3 #[.int .i64 r])
  rw [World.size_alloc] at S2
  have HR := Lib.hid h1
  have HNo := Lib.hid (fun (h : asB zs n ww r = false) (W : World) => show W.ownsRow w.heap.size 3 1 (.slice none 0 0) (gsV zs n ww r).length (cellsI (gsV zs n ww r)) ∧ GI zs w.heap.size W (.slice none 0 0) (ggV zs n ww r) from by
    rw [gsV_no h, ggV_no h]
    exact ⟨World.ownsRow_nil .., Gr.nil (World.ownsRow_nil ..)⟩)
  clear h1
  cases hs : svB zs n
  · rw [hs] at H
    have HE := Lib.hid (show asB zs n ww r = false by unfold asB; rw [hs]; rfl)
    have HX := Lib.hid (HNo.out HE.out)
    have H := Lib.hid H
    clear HNo HR
    go_enter Tryd.func53, Tryd.ntmps53
    go_upto_region 1 with fail
    generalize (w.alloc (.cells #[.int .i64 ww] 3)).alloc (.cells #[.int .i64 r] 3) = W0 at *
    go_wp2_with fail
    refine (H.out W0 S1.out.1).mono ?_
    rintro e w1 ⟨rfl, hb⟩
    have S3 := Lib.hid (S1.out.old hb)
    have S4 := Lib.hid (S2.out.old hb)
    clear hb S1 S2
    have b0 : w1.cell? ⟨w.heap.size, 0, none⟩ = some (.int .i64 ww) := S3.out.cell 0
    have b1 : w1.cell? ⟨w.heap.size + 1, 0, none⟩ = some (.int .i64 r) := S4.out.cell 0
    go_wp2_with fail
    go_ret3
    exact ⟨_, _, by rw [HE.out]; rfl, (HX.out _).1, (HX.out _).2, S3.out.1⟩
  rw [hs] at H
  by_cases w0 : ww < 0
  · have HE := Lib.hid (show asB zs n ww r = false by unfold asB; rw [show isIn ww 0 60 = false from decide_eq_false (fun h => by omega), Bool.false_and, Bool.and_false])
    have HX := Lib.hid (HNo.out HE.out)
    have H := Lib.hid H
    clear HNo HR
    go_enter Tryd.func53, Tryd.ntmps53
    go_upto_region 1 with fail
    generalize (w.alloc (.cells #[.int .i64 ww] 3)).alloc (.cells #[.int .i64 r] 3) = W0 at *
    go_wp2_with fail
    refine (H.out W0 S1.out.1).mono ?_
    rintro e w1 ⟨rfl, hb⟩
    have S3 := Lib.hid (S1.out.old hb)
    have S4 := Lib.hid (S2.out.old hb)
    clear hb S1 S2
    have b0 : w1.cell? ⟨w.heap.size, 0, none⟩ = some (.int .i64 ww) := S3.out.cell 0
    have b1 : w1.cell? ⟨w.heap.size + 1, 0, none⟩ = some (.int .i64 r) := S4.out.cell 0
    go_wp2_with fail
    go_ret3
    exact ⟨_, _, by rw [HE.out]; rfl, (HX.out _).1, (HX.out _).2, S3.out.1⟩
    
  by_cases w60 : 60 < ww
  · have HE := Lib.hid (show asB zs n ww r = false by unfold asB; rw [show isIn ww 0 60 = false from decide_eq_false (fun h => by omega), Bool.false_and, Bool.and_false])
    have HX := Lib.hid (HNo.out HE.out)
    have H := Lib.hid H
    clear HNo HR
    go_enter Tryd.func53, Tryd.ntmps53
    go_upto_region 1 with fail
    generalize (w.alloc (.cells #[.int .i64 ww] 3)).alloc (.cells #[.int .i64 r] 3) = W0 at *
    go_wp2_with fail
    refine (H.out W0 S1.out.1).mono ?_
    rintro e w1 ⟨rfl, hb⟩
    have S3 := Lib.hid (S1.out.old hb)
    have S4 := Lib.hid (S2.out.old hb)
    clear hb S1 S2
    have b0 : w1.cell? ⟨w.heap.size, 0, none⟩ = some (.int .i64 ww) := S3.out.cell 0
    have b1 : w1.cell? ⟨w.heap.size + 1, 0, none⟩ = some (.int .i64 r) := S4.out.cell 0
    go_wp2_with fail
    go_ret3
    exact ⟨_, _, by rw [HE.out]; rfl, (HX.out _).1, (HX.out _).2, S3.out.1⟩
    
  by_cases r0 : r < 0
  · have HE := Lib.hid (show asB zs n ww r = false by unfold asB; rw [show isIn r 0 1000 = false from decide_eq_false (fun h => by omega), Bool.and_false, Bool.and_false])
    have HX := Lib.hid (HNo.out HE.out)
    have H := Lib.hid H
    clear HNo HR
    go_enter Tryd.func53, Tryd.ntmps53
    go_upto_region 1 with fail
    generalize (w.alloc (.cells #[.int .i64 ww] 3)).alloc (.cells #[.int .i64 r] 3) = W0 at *
    go_wp2_with fail
    refine (H.out W0 S1.out.1).mono ?_
    rintro e w1 ⟨rfl, hb⟩
    have S3 := Lib.hid (S1.out.old hb)
    have S4 := Lib.hid (S2.out.old hb)
    clear hb S1 S2
    have b0 : w1.cell? ⟨w.heap.size, 0, none⟩ = some (.int .i64 ww) := S3.out.cell 0
    have b1 : w1.cell? ⟨w.heap.size + 1, 0, none⟩ = some (.int .i64 r) := S4.out.cell 0
    go_wp2_with fail
    go_ret3
    exact ⟨_, _, by rw [HE.out]; rfl, (HX.out _).1, (HX.out _).2, S3.out.1⟩
    
  by_cases r1000 : 1000 < r
  · have HE := Lib.hid (show asB zs n ww r = false by unfold asB; rw [show isIn r 0 1000 = false from decide_eq_false (fun h => by omega), Bool.and_false, Bool.and_false])
    have HX := Lib.hid (HNo.out HE.out)
    have H := Lib.hid H
    clear HNo HR
    go_enter Tryd.func53, Tryd.ntmps53
    go_upto_region 1 with fail
    generalize (w.alloc (.cells #[.int .i64 ww] 3)).alloc (.cells #[.int .i64 r] 3) = W0 at *
    go_wp2_with fail
    refine (H.out W0 S1.out.1).mono ?_
    rintro e w1 ⟨rfl, hb⟩
    have S3 := Lib.hid (S1.out.old hb)
    have S4 := Lib.hid (S2.out.old hb)
    clear hb S1 S2
    have b0 : w1.cell? ⟨w.heap.size, 0, none⟩ = some (.int .i64 ww) := S3.out.cell 0
    have b1 : w1.cell? ⟨w.heap.size + 1, 0, none⟩ = some (.int .i64 r) := S4.out.cell 0
    go_wp2_with fail
    go_ret3
    exact ⟨_, _, by rw [HE.out]; rfl, (HX.out _).1, (HX.out _).2, S3.out.1⟩
    
  have HE := Lib.hid (show asB zs n ww r = true by unfold asB; rw [hs, isIn_of (by omega) (by omega), isIn_of (by omega) (by omega)]; rfl)
  have HS := Lib.hid hs
  have hn20 : n ≤ 20 := (svB_yes hs).2
  have HV := Lib.hid (gsV_yes HE.out)
  have HGV := Lib.hid (ggV_yes HE.out)
  obtain ⟨iI, hiI, hzI0, hzI1, hzI2⟩ := info_parts infoI
  obtain ⟨iG, hiG, hzG0, hzG1, hzG2⟩ := info_parts infoG
  obtain ⟨iS, hiS, hzS0, hzS1, hzS2⟩ := info_parts infoGS
  have H := Lib.hid H
  clear HNo hs
  go_enter Tryd.func53, Tryd.ntmps53
  go_upto_region 1 with fail
  generalize (w.alloc (.cells #[.int .i64 ww] 3)).alloc (.cells #[.int .i64 r] 3) = W0 at *
  go_wp2_with fail
  refine (H.out W0 S1.out.1).mono ?_
  rintro e w1 ⟨rfl, hb⟩
  have S3 := Lib.hid (S1.out.old hb)
  have S4 := Lib.hid (S2.out.old hb)
  clear hb S1 S2
  have b0 : w1.cell? ⟨w.heap.size, 0, none⟩ = some (.int .i64 ww) := S3.out.cell 0
  have b1 : w1.cell? ⟨w.heap.size + 1, 0, none⟩ = some (.int .i64 r) := S4.out.cell 0
  go_wp2_with fail
  clear b0 b1
  go_loopw [9, 10, 35] (fun v9 v10 i wr => ∃ k : Nat, k ≤ n ∧ i = .int .i64 k ∧ wr.ownsRow w1.heap.size 3 1 v9 k (cellsI (gsT zs ww r k)) ∧ GI zs w1.heap.size wr v10 (grp zs ww r k) ∧ Below w1.heap.size w1 wr) (fun _ _ i _ => n - (intOf i).toNat)
  case atStart => exact ⟨0, Nat.zero_le _, rfl, World.ownsRow_nil .., Gr.nil (World.ownsRow_nil ..), Below.refl _ _⟩
  case round =>
    obtain ⟨k, hk, rfl, hO, hG, hb⟩ := hrel
    by_cases hlt : k < n
    · have hlt2 : (k : Int) < (n : Int) := by omega
      obtain ⟨b1, o1, rfl, lb1, p0, p1, p2, p3, p4⟩ := cellsE (HR.out.below (S3.out.1.trans (hb.mono S3.out.1.size)) (Nat.le_refl _)) hlt
      obtain ⟨A9, c9, rfl⟩ := own_sliceZ hO
      obtain ⟨A10, c10, rfl⟩ := hG.slice
      have ASK : ∀ q ∈ grp zs ww r k, Asks zs n k q := fun q hq => by
        obtain ⟨i, hi⟩ := List.mem_iff_getElem?.1 hq
        exact ⟨HS.out, hlt, fun j hj => by have := grp_lt hi j hj; omega, grp_ne _ _ hi, by have := grp_small hi; omega⟩
      have A0 := (Below.refl wr.heap.size wr).alloc (Nat.le_refl _) (.cells #[.int .i64 (fld 5 zs k 0), .int .i64 (fld 5 zs k 1), .int .i64 (fld 5 zs k 2), .int .i64 (fld 5 zs k 3), .int .i64 (fld 5 zs k 4)] 72)
      have hw1 := hb.size
      have N0 := newS 72 #[.int .i64 (fld 5 zs k 0), .int .i64 (fld 5 zs k 1), .int .i64 (fld 5 zs k 2), .int .i64 (fld 5 zs k 3), .int .i64 (fld 5 zs k 4)] wr
      have bw : wr.cell? ⟨w.heap.size, 0, none⟩ = some (.int .i64 ww) := (hb.cell (p := ⟨w.heap.size, 0, none⟩) S3.out.2.2.1).trans (S3.out.cell 0)
      have br : wr.cell? ⟨w.heap.size + 1, 0, none⟩ = some (.int .i64 r) := (hb.cell (p := ⟨w.heap.size + 1, 0, none⟩) S4.out.2.2.1).trans (S4.out.cell 0)
      have IG := Lib.hid (indexGroup zs ww r n k w1.heap.size (grp zs ww r k) A10 (grp zs ww r k).length c10 wr.heap.size w.heap.size (w.heap.size + 1) (wr.alloc (.cells #[.int .i64 (fld 5 zs k 0), .int .i64 (fld 5 zs k 1), .int .i64 (fld 5 zs k 2), .int .i64 (fld 5 zs k 3), .int .i64 (fld 5 zs k 4)] 72)) rfl (Nat.le_trans (grp_len ..) (by omega)) ASK (N0.cell 0) (N0.cell 1) (N0.cell 2) (N0.cell 3) (N0.cell 4) ((A0.cell (World.block_lt_of_cell? _ _ bw)).trans bw) ((A0.cell (World.block_lt_of_cell? _ _ br)).trans br) (hG.below A0))
      have HO := Lib.hid hO
      have HG := Lib.hid hG
      have HB := Lib.hid hb
      have HGL := Lib.hid (show (grp zs ww r k).length ≤ 20 from Nat.le_trans (grp_len ..) (by omega))
      have HSM := Lib.hid (fun g q (h : (grp zs ww r k)[g]? = some q) => grp_small h)
      have HPL := Lib.hid (pos_le zs ww r k (grp zs ww r k))
      have HGK := Lib.hid (show grp zs ww r (k + 1) = put (grp zs ww r k) (pos zs ww r k (grp zs ww r k)) k from rfl)
      have HGT := Lib.hid (show gsT zs ww r (k + 1) = gsT zs ww r k ++ [((pos zs ww r k (grp zs ww r k) : Nat) : Int)] from gsT_succ ..)
      have HLT := Lib.hid (gsT_length zs ww r k)
      have HGX := Lib.hid (show gix zs ww r k (grp zs ww r k) = if pos zs ww r k (grp zs ww r k) < (grp zs ww r k).length then ((pos zs ww r k (grp zs ww r k) : Nat) : Int) else -1 from rfl)
      clear hO hG hb ASK A0 N0 bw br
      generalize grp zs ww r k = G at *
      generalize pos zs ww r k G = p at *
      generalize gix zs ww r k G = gx at *
      generalize gsT zs ww r k = L at *
      generalize hgl : G.length = gl at *
      have HGE := Lib.hid hgl
      clear hgl
      go_upto_region 8 with fail
      have hpr : w.heap.size < wr.heap.size := Nat.lt_of_lt_of_le S3.out.2.2.1 hw1
      generalize hW2 : wr.alloc (.cells #[.int .i64 (fld 5 zs k 0), .int .i64 (fld 5 zs k 1), .int .i64 (fld 5 zs k 2), .int .i64 (fld 5 zs k 3), .int .i64 (fld 5 zs k 4)] 72) = W2 at *
      have N2 := Lib.hid (show AtS 72 #[.int .i64 (fld 5 zs k 0), .int .i64 (fld 5 zs k 1), .int .i64 (fld 5 zs k 2), .int .i64 (fld 5 zs k 3), .int .i64 (fld 5 zs k 4)] wr W2 wr.heap.size from hW2 ▸ newS 72 #[.int .i64 (fld 5 zs k 0), .int .i64 (fld 5 zs k 1), .int .i64 (fld 5 zs k 2), .int .i64 (fld 5 zs k 3), .int .i64 (fld 5 zs k 4)] wr)
      clear hW2 p0 p1 p2 p3 p4 HR H
      go_wp2_with fail
      refine IG.out.mono ?_
      rintro e w3 ⟨rfl, hb3⟩
      have N3 := Lib.hid (N2.out.old hb3)
      have B3 := Lib.hid (HB.out.trans (N3.out.1.mono HB.out.size))
      clear hb3 N2 IG
      by_cases hp : p < gl
      · have hgx : gx = (p : Int) := by rw [HGX.out, if_pos hp]
        subst hgx
        obtain ⟨q, hq⟩ : ∃ q, G[p]? = some q := ⟨_, List.getElem?_eq_getElem (by rw [HGE.out]; exact hp)⟩
        have hqs := HSM.out p q hq
        have HPT := Lib.hid (put_old (k := k) hq)
        have HQx := Lib.hid hq
        have HPX := Lib.hid hp
        have HGx := HGE
        have GIx := Lib.hid (HG.out.below N3.out.1)
        have HOx := Lib.hid (own_.own_below HO.out N3.out.1)
        have HUB := Lib.hid (show ∀ ob (u : Value), w3.cell? ⟨ob, p, none⟩ = some u → A10 = some ⟨ob, 0, none⟩ → ∀ gb, u.ownBlock = some gb → gb ≠ wr.heap.size from fun ob u hu e1 gb hgb => by
          obtain ⟨ob2, oc2, Au, uc, hv, hob, -, q0, -, own, -⟩ := HG.out.read hq
          injection hv with hv1 hv2 hv3
          have e4 : ob2 = ob := by rw [hv1] at e1; injection e1 with e1; injection e1
          subst e4
          have := ((N3.out.1.cell (p := ⟨ob2, p, none⟩) hob).trans q0).symm.trans hu
          injection this with this
          rw [← this] at hgb
          have := (own.lt gb hgb).2
          omega)
        have NX := Lib.hid (show ∀ WZ : World, Below w3.heap.size w3 WZ → ∀ (i : Nat) (v : Value), (#[.int .i64 (fld 5 zs k 0), .int .i64 (fld 5 zs k 1), .int .i64 (fld 5 zs k 2), .int .i64 (fld 5 zs k 3), .int .i64 (fld 5 zs k 4)] : Array Value)[i]? = some v → WZ.cell? ⟨wr.heap.size, i, none⟩ = some v from fun WZ hz i v hv => ((N3.out.old hz).cell i).trans hv)
        have BX := B3
        clear hq N3 B3 HO HG HGX HB
        have hm0 : ¬ (p : Int) < 0 := by omega
        obtain ⟨ob, oc, Au, uc, hv, hob, hBo, q0, fr0, ownu, hne⟩ := GIx.out.read HQx.out
        rw [HGx.out] at hv
        obtain ⟨rfl, rfl⟩ : A10 = some ⟨ob, 0, none⟩ ∧ c10 = oc := by injection hv with e1 e2 e3; exact ⟨e1, e3⟩
        have HUX := Lib.hid (fun gb (h : (Value.slice Au q.length uc).ownBlock = some gb) => show gb ≠ ob ∧ gb ≠ wr.heap.size from ⟨hne gb h, HUB.out _ _ q0 rfl gb h⟩)
        have OU := Lib.hid ownu
        have HQL := Lib.hid hqs
        have HBO := Lib.hid hBo
        have HOB := Lib.hid hob
        have FR := Lib.hid fr0
        have Q0 := Lib.hid q0
        clear hv hob hBo q0 fr0 ownu hne
        generalize hql : q.length = ql at *
        have HQE := Lib.hid hql
        clear hql
        have hpg := HPX.out
        have hpg2 : (p : Int) < (gl : Int) := by omega
        have hp0 : (0 : Int) ≤ (p : Int) := Int.natCast_nonneg _
        have CS := Lib.hid (show ∀ WZ : World, Below w3.heap.size w3 WZ → (World.cell? WZ ⟨wr.heap.size, 0, none⟩ = some (.int .i64 (fld 5 zs k 0)) ∧ World.cell? WZ ⟨wr.heap.size, 1, none⟩ = some (.int .i64 (fld 5 zs k 1)) ∧ World.cell? WZ ⟨wr.heap.size, 2, none⟩ = some (.int .i64 (fld 5 zs k 2)) ∧ World.cell? WZ ⟨wr.heap.size, 3, none⟩ = some (.int .i64 (fld 5 zs k 3)) ∧ World.cell? WZ ⟨wr.heap.size, 4, none⟩ = some (.int .i64 (fld 5 zs k 4))) ∧ World.cell? WZ ⟨ob, p, none⟩ = some (.slice Au ql uc) from fun WZ hz => ⟨⟨NX.out WZ hz 0 _ rfl, NX.out WZ hz 1 _ rfl, NX.out WZ hz 2 _ rfl, NX.out WZ hz 3 _ rfl, NX.out WZ hz 4 _ rfl⟩, (hz.cell (p := ⟨ob, p, none⟩) HOB.out).trans Q0.out⟩)
        go_upto_region 12 with fail
        have HS0 := Lib.hid (CS.out _ (Below.refl w3.heap.size w3).drew)
        refine wp_region_tail (S := fun w' => (World.cell? w' ⟨wr.heap.size, 0, none⟩ = some (.int .i64 (fld 5 zs k 0)) ∧ World.cell? w' ⟨wr.heap.size, 1, none⟩ = some (.int .i64 (fld 5 zs k 1)) ∧ World.cell? w' ⟨wr.heap.size, 2, none⟩ = some (.int .i64 (fld 5 zs k 2)) ∧ World.cell? w' ⟨wr.heap.size, 3, none⟩ = some (.int .i64 (fld 5 zs k 3)) ∧ World.cell? w' ⟨wr.heap.size, 4, none⟩ = some (.int .i64 (fld 5 zs k 4))) ∧ World.cell? w' ⟨ob, p, none⟩ = some (.slice Au ql uc)) 10 (by kernel_rfl) HS0.out (fun hHeld => ?_)
        try simp only [Act.put]
        refine wpAnyE_take (i := 0) (v := ?vqA0) rfl (by decide +kernel) (fun _ _ _ h => h) (Or.inl ⟨by rfl, ?hqA0⟩) (by assumption) ?rqA0
        case hqA0 =>
          intro wS hSw
          obtain ⟨⟨h0, h1, h2, h3, h4⟩, hx⟩ := hSw
          go_simp
          try with_reducible rfl
        try simp only [Act.put]
        refine wpAnyE_take (i := 1) (v := ?vqA1) rfl (by decide +kernel) (fun _ _ _ h => h) (Or.inl ⟨by rfl, ?hqA1⟩) (by assumption) ?rqA1
        case hqA1 =>
          intro wS hSw
          obtain ⟨⟨h0, h1, h2, h3, h4⟩, hx⟩ := hSw
          go_simp
          try with_reducible rfl
        try simp only [Act.put]
        refine wpAnyE_take (i := 2) (v := ?vqA2) rfl (by decide +kernel) (fun _ _ _ h => h) (Or.inl ⟨by rfl, ?hqA2⟩) (by assumption) ?rqA2
        case hqA2 =>
          intro wS hSw
          obtain ⟨⟨h0, h1, h2, h3, h4⟩, hx⟩ := hSw
          go_simp
          try with_reducible rfl
        try simp only [Act.put]
        refine wpAnyE_take (i := 3) (v := ?vqA3) rfl (by decide +kernel) (fun _ _ _ h => h) (Or.inl ⟨by rfl, ?hqA3⟩) (by assumption) ?rqA3
        case hqA3 =>
          intro wS hSw
          obtain ⟨⟨h0, h1, h2, h3, h4⟩, hx⟩ := hSw
          go_simp
          try with_reducible rfl
        try simp only [Act.put]
        refine wpAnyE_take (i := 4) (v := ?vqA4) rfl (by decide +kernel) (fun _ _ _ h => h) (Or.inl ⟨by rfl, ?hqA4⟩) (by assumption) ?rqA4
        case hqA4 =>
          intro wS hSw
          obtain ⟨⟨h0, h1, h2, h3, h4⟩, hx⟩ := hSw
          go_simp
          try with_reducible rfl
        try simp only [Act.put]
        refine wpAnyE_take (i := 5) (v := ?vqA5) rfl (by decide +kernel) (fun _ _ _ h => h) (Or.inl ⟨by rfl, ?hqA5⟩) (by assumption) ?rqA5
        case hqA5 =>
          intro wS hSw
          obtain ⟨⟨h0, h1, h2, h3, h4⟩, hx⟩ := hSw
          go_simp
          try with_reducible rfl
        try simp only [Act.put]
        refine wpAnyE_take (i := 6) (v := ?vqA6) rfl (by decide +kernel) (fun _ _ _ h => h) (Or.inl ⟨by rfl, ?hqA6⟩) (by assumption) ?rqA6
        case hqA6 =>
          intro wS hSw
          obtain ⟨⟨h0, h1, h2, h3, h4⟩, hx⟩ := hSw
          go_simp
          try with_reducible rfl
        try simp only [Act.put]
        refine wpAnyE_ready (rs := [7]) (by kernel_rfl) (by simp) ?_
        refine AllReadyE.cons (i := 7) rfl (by decide) (fun K hK => ?_) AllReadyE.nil
        go_simp
        refine hK.out _ _ (CS.out _ ((Below.refl w3.heap.size w3).drew.alloc (Nat.le_refl _) _)) (fun hHeld => ?_)
        clear hK K
        try simp only [Act.put]
        refine wpAnyE_ready (rs := [8]) (by kernel_rfl) (by simp) ?_
        refine AllReadyE.cons (i := 8) rfl (by decide) (fun K hK => ?_) AllReadyE.nil
        refine step_append_sz rfl (.tmp 54) (.tmp 56) 37 rfl w1.heap.size 72 iG (.agg #[.int .i64 0, .int .i64 0, .int .i64 0, .int .i64 0, .int .i64 0]) 5 40 Tryd.underlying37 hiG hzG0 hzG1 hzG2 rfl (by decide) (.slice Au ql uc) ql (rowI zs q) rfl (own_.own_below OU.out ((Below.refl w3.heap.size w3).drew.alloc (Nat.le_refl _) (.cells #[.int .i64 (fld 5 zs k 0), .int .i64 (fld 5 zs k 1), .int .i64 (fld 5 zs k 2), .int .i64 (fld 5 zs k 3), .int .i64 (fld 5 zs k 4)] 72))) _ 1 1 [.int .i64 (fld 5 zs k 0), .int .i64 (fld 5 zs k 1), .int .i64 (fld 5 zs k 2), .int .i64 (fld 5 zs k 3), .int .i64 (fld 5 zs k 4)] rfl rfl (cells_new w3.drew 72 #[.int .i64 (fld 5 zs k 0), .int .i64 (fld 5 zs k 1), .int .i64 (fld 5 zs k 2), .int .i64 (fld 5 zs k 3), .int .i64 (fld 5 zs k 4)]) (five_cells _ _ _ _ _) (by unfold maxLen; have := HQL.out; omega) (by have := HQL.out; omega) (by have := BX.out.size; show w1.heap.size ≤ (w3.alloc _).heap.size; rw [World.size_alloc]; omega) ?_
        intro vz4 wz4 oz4 gz4 rz4
        obtain ⟨Az4, cz4, rfl⟩ := own_sliceZ oz4
        have A1 : Below w3.heap.size w3 (w3.drew.alloc (.cells #[.int .i64 (fld 5 zs k 0), .int .i64 (fld 5 zs k 1), .int .i64 (fld 5 zs k 2), .int .i64 (fld 5 zs k 3), .int .i64 (fld 5 zs k 4)] 72)) := (Below.refl w3.heap.size w3).drew.alloc (Nat.le_refl _) _
        have NEW := Lib.hid (show (World.cell? wz4 ⟨wr.heap.size, 0, none⟩ = some (.int .i64 (fld 5 zs k 0)) ∧ World.cell? wz4 ⟨wr.heap.size, 1, none⟩ = some (.int .i64 (fld 5 zs k 1)) ∧ World.cell? wz4 ⟨wr.heap.size, 2, none⟩ = some (.int .i64 (fld 5 zs k 2)) ∧ World.cell? wz4 ⟨wr.heap.size, 3, none⟩ = some (.int .i64 (fld 5 zs k 3)) ∧ World.cell? wz4 ⟨wr.heap.size, 4, none⟩ = some (.int .i64 (fld 5 zs k 4))) ∧ World.cell? wz4 ⟨ob, p, none⟩ = some (.slice Au ql uc) from ⟨⟨gz4.cell (NX.out _ A1 0 _ rfl) (fun e => (HUX.out _ e.symm).2 rfl), gz4.cell (NX.out _ A1 1 _ rfl) (fun e => (HUX.out _ e.symm).2 rfl), gz4.cell (NX.out _ A1 2 _ rfl) (fun e => (HUX.out _ e.symm).2 rfl), gz4.cell (NX.out _ A1 3 _ rfl) (fun e => (HUX.out _ e.symm).2 rfl), gz4.cell (NX.out _ A1 4 _ rfl) (fun e => (HUX.out _ e.symm).2 rfl)⟩, gz4.cell ((A1.cell (p := ⟨ob, p, none⟩) HOB.out).trans Q0.out) (fun e => (HUX.out _ e.symm).1 rfl)⟩)
        have sz4 : wz4.cell? ⟨ob, p, none⟩ = some (.slice Au ql uc) := NEW.out.2
        have fz4 : wz4.frozen? ⟨ob, p, none⟩ = false := (World.frozen?_of_block (a := ⟨ob, p, none⟩) (gz4.block ob (Nat.lt_of_lt_of_le HOB.out A1.size) (fun e => (HUX.out _ e.symm).1 rfl))).trans ((A1.frozen (p := ⟨ob, p, none⟩) HOB.out).trans FR.out)
        have OU1 := own_.own_below OU.out A1
        have G4 := Lib.hid ((GIx.out.below A1).app (k := k) HQx.out (by rw [HGx.out]) ((A1.cell (p := ⟨ob, p, none⟩) HOB.out).trans Q0.out) gz4 (by rw [HQE.out]; exact oz4) rz4)
        have O9 := Lib.hid (own_kept_at (kept_row (own_.own_below HOx.out A1) OU1 (by decide) gz4) (grown_set (grown_refl wz4 (some ob)) p (.slice Az4 (ql + 1) cz4)) (fun g hg e => by
          injection e with e
          obtain ⟨us, hus, _⟩ := GIx.out
          exact rws.apart HOx.out hus (by decide) hg (by rw [e]; rfl)))
        have B4 := Lib.hid (((BX.out.trans (A1.mono BX.out.size)).grown gz4 (Nat.le_trans BX.out.size A1.size) (own_.row_ge OU1)).setCell (p := ⟨ob, p, none⟩) HBO.out (.slice Az4 (ql + 1) cz4))
        clear A1 OU1 oz4 gz4 rz4
        refine hK.out _ _ (NEW.out) (fun hHeld => ?_)
        clear hK K
        try simp only [Act.put]
        refine wpAnyE_take (i := 9) (v := ?vqA9) rfl (by decide +kernel) (fun _ _ _ h => h) (Or.inl ⟨by rfl, ?hqA9⟩) (by assumption) ?rqA9
        case hqA9 =>
          intro wS hSw
          obtain ⟨⟨h0, h1, h2, h3, h4⟩, hx⟩ := hSw
          go_simp
          try with_reducible rfl
        try simp only [Act.put]
        refine wpAnyE_ready (rs := [10]) (by kernel_rfl) (by simp) ?_
        refine AllReadyE.last (i := 10) rfl rfl (fun K hK => ?_)
        go_simp
        refine hK.out _ _ ?_
        clear hK K
        try simp only [Act.put]
        refine wpAnyE_done (by kernel_rfl) ?_ _
        try simp only [List.getElem_toArray, List.getElem_cons_succ, List.getElem_cons_zero, List.setIfInBounds_toArray, List.set_cons_succ, List.set_cons_zero]
        clear sz4 fz4 NEW CS HS0 hHeld
        generalize wz4.setCell ⟨ob, p, none⟩ (.slice Az4 (ql + 1) cz4) = w5 at *
        have h5 := B4.out.size
        have A5 := (Below.refl w5.heap.size w5).alloc (Nat.le_refl _) (.cells #[.int .i64 (p : Int)] 3)
        have O9a := Lib.hid (O9.out.alloc (.cells #[.int .i64 (p : Int)] 3))
        have G5 := Lib.hid (G4.out.below A5)
        have B5 := Lib.hid (B4.out.trans (A5.mono h5))
        clear A5 G4 B4 O9
        go_wp2_with (at_builtin; refine wpList_append_any rfl (.tmp 59) (.tmp 61) 26 rfl w1.heap.size 3 iI (.int .i64 0) 1 8 Tryd.underlying26 hiI hzI0 hzI1 hzI2 rfl (by decide) _ k (cellsI L) rfl O9a.out ⟨w5.heap.size, 0, none⟩ 1 1 [.int .i64 (p : Int)] rfl rfl (cell_one_new _ _ _) (own_.one_cell _ rfl) (by unfold maxLen; omega) (by omega) (by rw [World.size_alloc]; omega) ?_; intro v6 w6 o6 g6 n6; obtain ⟨A6, c6, rfl⟩ := own_sliceZ o6)
        have HG6 := Lib.hid (show GI zs w1.heap.size w6 (.slice (some ⟨ob, 0, none⟩) gl c10) (grp zs ww r (k + 1)) by rw [HGK.out, HPT.out]; exact Gr.kept G5.out O9a.out (by decide) (by decide) g6)
        have HO6 := Lib.hid (show w6.ownsRow w1.heap.size 3 1 (.slice A6 (k + 1) c6) (k + 1) (cellsI (gsT zs ww r (k + 1))) by rw [HGT.out]; unfold cellsI; rw [List.map_append]; exact o6)
        have B6 := Lib.hid (B5.out.grown g6 (by rw [World.size_alloc]; omega) (own_.row_ge O9a.out))
        clear o6 g6 n6 O9a G5 B5
        go_wp2_with fail
        go_roundw
        case rel => exact ⟨k + 1, by omega, by go_num, HO6.out, HG6.out, B6.out⟩
        case measure => simp [intOf]; omega
      · have hgx : gx = -1 := by rw [HGX.out, if_neg hp]
        subst hgx
        obtain rfl : p = gl := by have := HPL.out; omega
        obtain ⟨us, hus, hins⟩ := HG.out.below N3.out.1
        rw [List.length_map] at hus
        have hub : us.length = p := by have := hus.1; have := HGE.out; omega
        have HUS := Lib.hid hus
        rw [HGE.out] at hus
        have hb3 := B3.out.size
        have A3 := (Below.refl w3.heap.size w3).alloc (Nat.le_refl _) (.cells #[.slice none 0 0] 37)
        have OWN := Lib.hid (own_.own_below hus A3)
        have HIN := Lib.hid hins
        have HA3 := Lib.hid A3
        have HUL := Lib.hid hub
        have hpl := HGL.out
        clear hus hins A3 hub
        go_wp2_with (at_builtin; refine wpList_append_any rfl (.tmp 46) (.tmp 47) 78 rfl w1.heap.size 37 iS (.slice none 0 0) 1 24 Tryd.underlying78 hiS hzS0 hzS1 hzS2 rfl (by decide) _ p us rfl OWN.out ⟨w3.heap.size, 0, none⟩ 1 1 [.slice none 0 0] rfl rfl (cell_one_new _ _ _) (own_.one_cell _ rfl) (by unfold maxLen; omega) (by omega) (by rw [World.size_alloc]; omega) ?_; intro v4 w4 o4 g4 n4; obtain ⟨A4, c4, rfl⟩ := own_sliceZ o4)
        have PG := put_grown (G := G) (p := p) (k := k) (by rw [HGE.out]; omega) (by rw [HGE.out]; omega)
        obtain ⟨q, hqs, PG1, PG2⟩ : ∃ q : List Nat, q.length ≤ k ∧ (G ++ [[]])[p]? = some q ∧ put G p k = (G ++ [[]]).set p (q ++ [k]) := ⟨[], Nat.zero_le _, PG.1, PG.2⟩
        have HPT := Lib.hid PG2
        have HQx := Lib.hid PG1
        have HPX := Lib.hid (Nat.lt_succ_self p)
        have HGx := Lib.hid (show (G ++ [[]]).length = p + 1 by rw [List.length_append, HGE.out]; rfl)
        have GIx := Lib.hid (GI.push HUS.out HIN.out HA3.out g4 (by rw [HGE.out]; exact o4))
        have HOx := Lib.hid (kept_row (own_.own_below (own_.own_below HO.out N3.out.1) HA3.out) OWN.out (by decide) g4)
        have HUB := Lib.hid (show ∀ ob (u : Value), w4.cell? ⟨ob, p, none⟩ = some u → A4 = some ⟨ob, 0, none⟩ → ∀ gb, u.ownBlock = some gb → gb ≠ wr.heap.size from fun ob u hu e1 gb hgb => by
          rw [e1] at o4
          have e2 := (o4.cellAt p (by omega)).symm.trans hu
          rw [List.getElem?_append_right (by rw [HUL.out]; exact Nat.le_refl _), HUL.out, Nat.sub_self] at e2
          injection e2 with e2
          rw [← e2] at hgb
          cases hgb)
        have NX := Lib.hid (show ∀ WZ : World, Below w4.heap.size w4 WZ → ∀ (i : Nat) (v : Value), (#[.int .i64 (fld 5 zs k 0), .int .i64 (fld 5 zs k 1), .int .i64 (fld 5 zs k 2), .int .i64 (fld 5 zs k 3), .int .i64 (fld 5 zs k 4)] : Array Value)[i]? = some v → WZ.cell? ⟨wr.heap.size, i, none⟩ = some v from fun WZ hz i v hv => by
          have h0 : wr.heap.size < w4.heap.size := Nat.lt_of_lt_of_le N3.out.2.2.1 (Nat.le_trans HA3.out.size g4.size)
          rw [hz.cell (p := ⟨wr.heap.size, i, none⟩) h0]
          refine g4.cell (((N3.out.old HA3.out).cell i).trans hv) (fun e => ?_)
          have := (HG.out.lt wr.heap.size e.symm).2
          omega)
        have BX := Lib.hid ((B3.out.trans (HA3.out.mono hb3)).grown g4 (by rw [World.size_alloc]; omega) (own_.row_ge OWN.out))
        clear PG PG1 PG2 o4 g4 n4 OWN HIN HA3 HUS N3 B3 HO HG HGX HB hb3
        generalize hgg : G ++ [[]] = Gx at *
        have hgg := Lib.hid hgg
        obtain ⟨ob, oc, Au, uc, hv, hob, hBo, q0, fr0, ownu, hne⟩ := GIx.out.read HQx.out
        rw [HGx.out] at hv
        obtain ⟨rfl, rfl⟩ : A4 = some ⟨ob, 0, none⟩ ∧ c4 = oc := by injection hv with e1 e2 e3; exact ⟨e1, e3⟩
        have HUX := Lib.hid (fun gb (h : (Value.slice Au q.length uc).ownBlock = some gb) => show gb ≠ ob ∧ gb ≠ wr.heap.size from ⟨hne gb h, HUB.out _ _ q0 rfl gb h⟩)
        have OU := Lib.hid ownu
        have HQL := Lib.hid hqs
        have HBO := Lib.hid hBo
        have HOB := Lib.hid hob
        have FR := Lib.hid fr0
        have Q0 := Lib.hid q0
        clear hv hob hBo q0 fr0 ownu hne
        generalize hql : q.length = ql at *
        have HQE := Lib.hid hql
        clear hql
        have hpg := HPX.out
        have hpg2 : (p : Int) < ((p + 1) : Int) := by omega
        have hp0 : (0 : Int) ≤ (p : Int) := Int.natCast_nonneg _
        have CS := Lib.hid (show ∀ WZ : World, Below w4.heap.size w4 WZ → (World.cell? WZ ⟨wr.heap.size, 0, none⟩ = some (.int .i64 (fld 5 zs k 0)) ∧ World.cell? WZ ⟨wr.heap.size, 1, none⟩ = some (.int .i64 (fld 5 zs k 1)) ∧ World.cell? WZ ⟨wr.heap.size, 2, none⟩ = some (.int .i64 (fld 5 zs k 2)) ∧ World.cell? WZ ⟨wr.heap.size, 3, none⟩ = some (.int .i64 (fld 5 zs k 3)) ∧ World.cell? WZ ⟨wr.heap.size, 4, none⟩ = some (.int .i64 (fld 5 zs k 4))) ∧ World.cell? WZ ⟨ob, p, none⟩ = some (.slice Au ql uc) from fun WZ hz => ⟨⟨NX.out WZ hz 0 _ rfl, NX.out WZ hz 1 _ rfl, NX.out WZ hz 2 _ rfl, NX.out WZ hz 3 _ rfl, NX.out WZ hz 4 _ rfl⟩, (hz.cell (p := ⟨ob, p, none⟩) HOB.out).trans Q0.out⟩)
        go_upto_region 12 with fail
        have HS0 := Lib.hid (CS.out _ (Below.refl w4.heap.size w4).drew)
        refine wp_region_tail (S := fun w' => (World.cell? w' ⟨wr.heap.size, 0, none⟩ = some (.int .i64 (fld 5 zs k 0)) ∧ World.cell? w' ⟨wr.heap.size, 1, none⟩ = some (.int .i64 (fld 5 zs k 1)) ∧ World.cell? w' ⟨wr.heap.size, 2, none⟩ = some (.int .i64 (fld 5 zs k 2)) ∧ World.cell? w' ⟨wr.heap.size, 3, none⟩ = some (.int .i64 (fld 5 zs k 3)) ∧ World.cell? w' ⟨wr.heap.size, 4, none⟩ = some (.int .i64 (fld 5 zs k 4))) ∧ World.cell? w' ⟨ob, p, none⟩ = some (.slice Au ql uc)) 10 (by kernel_rfl) HS0.out (fun hHeld => ?_)
        try simp only [Act.put]
        refine wpAnyE_take (i := 0) (v := ?vqB0) rfl (by decide +kernel) (fun _ _ _ h => h) (Or.inl ⟨by rfl, ?hqB0⟩) (by assumption) ?rqB0
        case hqB0 =>
          intro wS hSw
          obtain ⟨⟨h0, h1, h2, h3, h4⟩, hx⟩ := hSw
          go_simp
          try with_reducible rfl
        try simp only [Act.put]
        refine wpAnyE_take (i := 1) (v := ?vqB1) rfl (by decide +kernel) (fun _ _ _ h => h) (Or.inl ⟨by rfl, ?hqB1⟩) (by assumption) ?rqB1
        case hqB1 =>
          intro wS hSw
          obtain ⟨⟨h0, h1, h2, h3, h4⟩, hx⟩ := hSw
          go_simp
          try with_reducible rfl
        try simp only [Act.put]
        refine wpAnyE_take (i := 2) (v := ?vqB2) rfl (by decide +kernel) (fun _ _ _ h => h) (Or.inl ⟨by rfl, ?hqB2⟩) (by assumption) ?rqB2
        case hqB2 =>
          intro wS hSw
          obtain ⟨⟨h0, h1, h2, h3, h4⟩, hx⟩ := hSw
          go_simp
          try with_reducible rfl
        try simp only [Act.put]
        refine wpAnyE_take (i := 3) (v := ?vqB3) rfl (by decide +kernel) (fun _ _ _ h => h) (Or.inl ⟨by rfl, ?hqB3⟩) (by assumption) ?rqB3
        case hqB3 =>
          intro wS hSw
          obtain ⟨⟨h0, h1, h2, h3, h4⟩, hx⟩ := hSw
          go_simp
          try with_reducible rfl
        try simp only [Act.put]
        refine wpAnyE_take (i := 4) (v := ?vqB4) rfl (by decide +kernel) (fun _ _ _ h => h) (Or.inl ⟨by rfl, ?hqB4⟩) (by assumption) ?rqB4
        case hqB4 =>
          intro wS hSw
          obtain ⟨⟨h0, h1, h2, h3, h4⟩, hx⟩ := hSw
          go_simp
          try with_reducible rfl
        try simp only [Act.put]
        refine wpAnyE_take (i := 5) (v := ?vqB5) rfl (by decide +kernel) (fun _ _ _ h => h) (Or.inl ⟨by rfl, ?hqB5⟩) (by assumption) ?rqB5
        case hqB5 =>
          intro wS hSw
          obtain ⟨⟨h0, h1, h2, h3, h4⟩, hx⟩ := hSw
          go_simp
          try with_reducible rfl
        try simp only [Act.put]
        refine wpAnyE_take (i := 6) (v := ?vqB6) rfl (by decide +kernel) (fun _ _ _ h => h) (Or.inl ⟨by rfl, ?hqB6⟩) (by assumption) ?rqB6
        case hqB6 =>
          intro wS hSw
          obtain ⟨⟨h0, h1, h2, h3, h4⟩, hx⟩ := hSw
          go_simp
          try with_reducible rfl
        try simp only [Act.put]
        refine wpAnyE_ready (rs := [7]) (by kernel_rfl) (by simp) ?_
        refine AllReadyE.cons (i := 7) rfl (by decide) (fun K hK => ?_) AllReadyE.nil
        go_simp
        refine hK.out _ _ (CS.out _ ((Below.refl w4.heap.size w4).drew.alloc (Nat.le_refl _) _)) (fun hHeld => ?_)
        clear hK K
        try simp only [Act.put]
        refine wpAnyE_ready (rs := [8]) (by kernel_rfl) (by simp) ?_
        refine AllReadyE.cons (i := 8) rfl (by decide) (fun K hK => ?_) AllReadyE.nil
        refine step_append_sz rfl (.tmp 54) (.tmp 56) 37 rfl w1.heap.size 72 iG (.agg #[.int .i64 0, .int .i64 0, .int .i64 0, .int .i64 0, .int .i64 0]) 5 40 Tryd.underlying37 hiG hzG0 hzG1 hzG2 rfl (by decide) (.slice Au ql uc) ql (rowI zs q) rfl (own_.own_below OU.out ((Below.refl w4.heap.size w4).drew.alloc (Nat.le_refl _) (.cells #[.int .i64 (fld 5 zs k 0), .int .i64 (fld 5 zs k 1), .int .i64 (fld 5 zs k 2), .int .i64 (fld 5 zs k 3), .int .i64 (fld 5 zs k 4)] 72))) _ 1 1 [.int .i64 (fld 5 zs k 0), .int .i64 (fld 5 zs k 1), .int .i64 (fld 5 zs k 2), .int .i64 (fld 5 zs k 3), .int .i64 (fld 5 zs k 4)] rfl rfl (cells_new w4.drew 72 #[.int .i64 (fld 5 zs k 0), .int .i64 (fld 5 zs k 1), .int .i64 (fld 5 zs k 2), .int .i64 (fld 5 zs k 3), .int .i64 (fld 5 zs k 4)]) (five_cells _ _ _ _ _) (by unfold maxLen; have := HQL.out; omega) (by have := HQL.out; omega) (by have := BX.out.size; show w1.heap.size ≤ (w4.alloc _).heap.size; rw [World.size_alloc]; omega) ?_
        intro vz4 wz4 oz4 gz4 rz4
        obtain ⟨Az4, cz4, rfl⟩ := own_sliceZ oz4
        have A1 : Below w4.heap.size w4 (w4.drew.alloc (.cells #[.int .i64 (fld 5 zs k 0), .int .i64 (fld 5 zs k 1), .int .i64 (fld 5 zs k 2), .int .i64 (fld 5 zs k 3), .int .i64 (fld 5 zs k 4)] 72)) := (Below.refl w4.heap.size w4).drew.alloc (Nat.le_refl _) _
        have NEW := Lib.hid (show (World.cell? wz4 ⟨wr.heap.size, 0, none⟩ = some (.int .i64 (fld 5 zs k 0)) ∧ World.cell? wz4 ⟨wr.heap.size, 1, none⟩ = some (.int .i64 (fld 5 zs k 1)) ∧ World.cell? wz4 ⟨wr.heap.size, 2, none⟩ = some (.int .i64 (fld 5 zs k 2)) ∧ World.cell? wz4 ⟨wr.heap.size, 3, none⟩ = some (.int .i64 (fld 5 zs k 3)) ∧ World.cell? wz4 ⟨wr.heap.size, 4, none⟩ = some (.int .i64 (fld 5 zs k 4))) ∧ World.cell? wz4 ⟨ob, p, none⟩ = some (.slice Au ql uc) from ⟨⟨gz4.cell (NX.out _ A1 0 _ rfl) (fun e => (HUX.out _ e.symm).2 rfl), gz4.cell (NX.out _ A1 1 _ rfl) (fun e => (HUX.out _ e.symm).2 rfl), gz4.cell (NX.out _ A1 2 _ rfl) (fun e => (HUX.out _ e.symm).2 rfl), gz4.cell (NX.out _ A1 3 _ rfl) (fun e => (HUX.out _ e.symm).2 rfl), gz4.cell (NX.out _ A1 4 _ rfl) (fun e => (HUX.out _ e.symm).2 rfl)⟩, gz4.cell ((A1.cell (p := ⟨ob, p, none⟩) HOB.out).trans Q0.out) (fun e => (HUX.out _ e.symm).1 rfl)⟩)
        have sz4 : wz4.cell? ⟨ob, p, none⟩ = some (.slice Au ql uc) := NEW.out.2
        have fz4 : wz4.frozen? ⟨ob, p, none⟩ = false := (World.frozen?_of_block (a := ⟨ob, p, none⟩) (gz4.block ob (Nat.lt_of_lt_of_le HOB.out A1.size) (fun e => (HUX.out _ e.symm).1 rfl))).trans ((A1.frozen (p := ⟨ob, p, none⟩) HOB.out).trans FR.out)
        have OU1 := own_.own_below OU.out A1
        have G4 := Lib.hid ((GIx.out.below A1).app (k := k) HQx.out (by rw [HGx.out]) ((A1.cell (p := ⟨ob, p, none⟩) HOB.out).trans Q0.out) gz4 (by rw [HQE.out]; exact oz4) rz4)
        have O9 := Lib.hid (own_kept_at (kept_row (own_.own_below HOx.out A1) OU1 (by decide) gz4) (grown_set (grown_refl wz4 (some ob)) p (.slice Az4 (ql + 1) cz4)) (fun g hg e => by
          injection e with e
          obtain ⟨us, hus, _⟩ := GIx.out
          exact rws.apart HOx.out hus (by decide) hg (by rw [e]; rfl)))
        have B4 := Lib.hid (((BX.out.trans (A1.mono BX.out.size)).grown gz4 (Nat.le_trans BX.out.size A1.size) (own_.row_ge OU1)).setCell (p := ⟨ob, p, none⟩) HBO.out (.slice Az4 (ql + 1) cz4))
        clear A1 OU1 oz4 gz4 rz4
        refine hK.out _ _ (NEW.out) (fun hHeld => ?_)
        clear hK K
        try simp only [Act.put]
        refine wpAnyE_take (i := 9) (v := ?vqB9) rfl (by decide +kernel) (fun _ _ _ h => h) (Or.inl ⟨by rfl, ?hqB9⟩) (by assumption) ?rqB9
        case hqB9 =>
          intro wS hSw
          obtain ⟨⟨h0, h1, h2, h3, h4⟩, hx⟩ := hSw
          go_simp
          try with_reducible rfl
        try simp only [Act.put]
        refine wpAnyE_ready (rs := [10]) (by kernel_rfl) (by simp) ?_
        refine AllReadyE.last (i := 10) rfl rfl (fun K hK => ?_)
        go_simp
        refine hK.out _ _ ?_
        clear hK K
        try simp only [Act.put]
        refine wpAnyE_done (by kernel_rfl) ?_ _
        try simp only [List.getElem_toArray, List.getElem_cons_succ, List.getElem_cons_zero, List.setIfInBounds_toArray, List.set_cons_succ, List.set_cons_zero]
        clear sz4 fz4 NEW CS HS0 hHeld
        generalize wz4.setCell ⟨ob, p, none⟩ (.slice Az4 (ql + 1) cz4) = w5 at *
        have h5 := B4.out.size
        have A5 := (Below.refl w5.heap.size w5).alloc (Nat.le_refl _) (.cells #[.int .i64 (p : Int)] 3)
        have O9a := Lib.hid (O9.out.alloc (.cells #[.int .i64 (p : Int)] 3))
        have G5 := Lib.hid (G4.out.below A5)
        have B5 := Lib.hid (B4.out.trans (A5.mono h5))
        clear A5 G4 B4 O9
        go_wp2_with (at_builtin; refine wpList_append_any rfl (.tmp 59) (.tmp 61) 26 rfl w1.heap.size 3 iI (.int .i64 0) 1 8 Tryd.underlying26 hiI hzI0 hzI1 hzI2 rfl (by decide) _ k (cellsI L) rfl O9a.out ⟨w5.heap.size, 0, none⟩ 1 1 [.int .i64 (p : Int)] rfl rfl (cell_one_new _ _ _) (own_.one_cell _ rfl) (by unfold maxLen; omega) (by omega) (by rw [World.size_alloc]; omega) ?_; intro v6 w6 o6 g6 n6; obtain ⟨A6, c6, rfl⟩ := own_sliceZ o6)
        have HG6 := Lib.hid (show GI zs w1.heap.size w6 (.slice (some ⟨ob, 0, none⟩) (p + 1) c4) (grp zs ww r (k + 1)) by rw [HGK.out, HPT.out]; exact Gr.kept G5.out O9a.out (by decide) (by decide) g6)
        have HO6 := Lib.hid (show w6.ownsRow w1.heap.size 3 1 (.slice A6 (k + 1) c6) (k + 1) (cellsI (gsT zs ww r (k + 1))) by rw [HGT.out]; unfold cellsI; rw [List.map_append]; exact o6)
        have B6 := Lib.hid (B5.out.grown g6 (by rw [World.size_alloc]; omega) (own_.row_ge O9a.out))
        clear o6 g6 n6 O9a G5 B5
        go_wp2_with fail
        go_roundw
        case rel => exact ⟨k + 1, by omega, by go_num, HO6.out, HG6.out, B6.out⟩
        case measure => simp [intOf]; omega
    · obtain rfl : k = n := by omega
      obtain ⟨A9, c9, rfl⟩ := own_sliceZ hO
      obtain ⟨A10, c10, rfl⟩ := hG.slice
      have HO := Lib.hid (show wr.ownsRow w.heap.size 3 1 (.slice A9 k c9) (gsV zs k ww r).length (cellsI (gsV zs k ww r)) by rw [HV.out, gsT_length]; exact own_.own_base hO S3.out.1.size)
      have HG := Lib.hid (show GI zs w.heap.size wr (.slice A10 (grp zs ww r k).length c10) (ggV zs k ww r) by rw [HGV.out]; exact Gr.base hG S3.out.1.size)
      have HB := Lib.hid (S3.out.1.trans (hb.mono S3.out.1.size))
      clear hO hG hb
      generalize (grp zs ww r k).length = gl at *
      go_wp2_with fail
      go_ret3
      exact ⟨_, _, by rw [HE.out]; rfl, HO.out, HG.out, HB.out⟩
end Go.Proofs.YtdjcbfeilkepmaaDoor.pltk

/- impl's GroupSightings, LonelySightings, SiteCounts. -/
namespace Go.Proofs.YtdjcbfeilkepmaaDoor.pltl
open Go.RowKit Go.Proofs.YtdjcbfeilkepmaaDoor.ints Go.Proofs.YtdjcbfeilkepmaaDoor.lst Go.Proofs.YtdjcbfeilkepmaaDoor.in_ Go.Proofs.YtdjcbfeilkepmaaDoor.ats Go.Proofs.YtdjcbfeilkepmaaDoor.pos Go.Proofs.YtdjcbfeilkepmaaDoor.plt Go.Proofs.YtdjcbfeilkepmaaDoor.pltm Go.Proofs.YtdjcbfeilkepmaaDoor.plte Go.Proofs.YtdjcbfeilkepmaaDoor.plti Go.Proofs.YtdjcbfeilkepmaaDoor.pltj Go.Proofs.YtdjcbfeilkepmaaDoor.pltk Go.Proofs.YtdjcbfeilkepmaaDoor.rws

theorem made_zero (n : Nat) : (madeCells (Value.cells (.int .i64 0)) (n * 1)).toList = cellsI (List.replicate n 0) := by
  refine List.ext_getElem (by simp [madeCells, cellsI]) fun i h1 h2 => ?_
  simp [madeCells, Value.cells, Nat.mod_one, cellsI]

set_option maxRecDepth 100000 in
theorem groupSightings (zs : List Int) (ww r : Int) (A : Option Addr) (n c : Nat) (w : World) (hn : n ≤ 1048577) (h1 : RdZ 5 w w.heap.size A n zs) :
    Calls Tryd.prog 24 #[.slice A n c, .int .i64 ww, .int .i64 r] w fun e w' => ∃ v, e = .returned (.tuple #[v, .bool (asB zs n ww r)]) ∧ w'.ownsRow w.heap.size 3 1 v (gsV zs n ww r).length (cellsI (gsV zs n ww r)) ∧ Below w.heap.size w w' := by
  have H := Lib.hid (groupsOf zs ww r A n c w hn h1)
  clear h1
  go_enter Tryd.func24, Tryd.ntmps24
  go_wp2_with fail
  refine H.out.mono ?_
  rintro e w1 ⟨v1, v2, rfl, h2, -, hb⟩
  have O := Lib.hid h2
  clear h2
  go_wp2_with fail
  go_ret2
  exact ⟨_, rfl, O.out, hb⟩

set_option maxRecDepth 100000 in
set_option maxHeartbeats 2000000 in
theorem lonelySightings (zs : List Int) (ww r : Int) (A : Option Addr) (n c : Nat) (w : World) (hn : n ≤ 1048577) (h1 : RdZ 5 w w.heap.size A n zs) :
    Calls Tryd.prog 22 #[.slice A n c, .int .i64 ww, .int .i64 r] w fun e w' => ∃ v, e = .returned (.tuple #[v, .bool (asB zs n ww r)]) ∧ w'.ownsRow w.heap.size 3 1 v (loV zs n ww r).length (cellsI (loV zs n ww r)) ∧ Below w.heap.size w w' := by
  have H := groupsOf zs ww r A n c w hn h1
  cases hq : asB zs n ww r
  · rw [hq] at H
    have HV := Lib.hid (loV_no hq)
    have H := Lib.hid H
    clear hq h1
    go_enter Tryd.func22, Tryd.ntmps22
    go_wp2_with fail
    refine H.out.mono ?_
    rintro e w1 ⟨v1, v2, rfl, -, -, hb⟩
    have HB := Lib.hid hb
    clear hb
    go_wp2_with fail
    go_ret2
    exact ⟨_, rfl, by rw [HV.out]; exact World.ownsRow_nil w1 _ _ _, HB.out⟩
  rw [hq, gsV_yes hq, ggV_yes hq, gsT_length] at H
  have HV := Lib.hid (loV_yes hq)
  have HN := Lib.hid (svB_yes (asB_yes hq).1)
  obtain ⟨iI, hiI, hzI0, hzI1, hzI2⟩ := info_parts infoI
  have H := Lib.hid H
  have hn20 := HN.out.2
  clear h1 hq
  go_enter Tryd.func22, Tryd.ntmps22
  go_wp2_with fail
  refine H.out.mono ?_
  rintro e w1 ⟨v1, v2, rfl, h2, h3, hb⟩
  obtain ⟨A1, c1, rfl⟩ := own_sliceZ h2
  obtain ⟨A2, c2, rfl⟩ := h3.slice
  have HO := Lib.hid h2
  have HG := Lib.hid h3
  have HB := Lib.hid hb
  have HNL := Lib.hid (fun k (hk : k < n) => num_lt (zs := zs) (w := ww) (r := r) k hk)
  clear h2 h3 hb
  generalize hgl : (grp zs ww r n).length = gl at *
  clear hgl
  go_wp2_with fail
  go_loopw [11, 26] (fun v i wr => ∃ k : Nat, k ≤ n ∧ i = .int .i64 k ∧ wr.ownsRow w1.heap.size 3 1 v (loT zs n ww r k).length (cellsI (loT zs n ww r k)) ∧ Below w1.heap.size w1 wr) (fun _ i _ => n - (intOf i).toNat)
  case atStart => exact ⟨0, Nat.zero_le _, rfl, World.ownsRow_nil .., Below.refl _ _⟩
  case round =>
    obtain ⟨k, hk, rfl, hO, hb⟩ := hrel
    by_cases hlt : k < n
    · have hlt2 : (k : Int) < (n : Int) := by omega
      have hnl := HNL.out k hlt
      obtain ⟨q, hq⟩ : ∃ q, (grp zs ww r n)[num zs ww r k]? = some q := by
        obtain ⟨-, h3⟩ : True ∧ num zs ww r k < (grp zs ww r n).length := ⟨trivial, num_lt k hlt⟩
        exact ⟨_, List.getElem?_eq_getElem h3⟩
      obtain ⟨ob, oc, Au, uc, hv, hob, -, q0, -⟩ := (HG.out.below hb).read hq
      obtain rfl : A2 = some ⟨ob, 0, none⟩ := by injection hv
      have OWr := own_.own_below HO.out hb
      obtain ⟨gn, rfl⟩ : ∃ gn, A1 = some ⟨gn, 0, none⟩ := by
        rcases OWr.2 with ⟨_, h0⟩ | ⟨g, cap, cur, hv, _⟩
        · omega
        · exact ⟨g, by injection hv⟩
      have n0 : wr.cell? ⟨gn, k, none⟩ = some (.int .i64 ((num zs ww r k : Nat) : Int)) := by
        rw [OWr.cellAt k (by omega)]
        unfold gsT cellsI
        rw [List.map_map, List.getElem?_map, List.getElem?_range hlt]; rfl
      obtain ⟨A5, c5, rfl⟩ := own_sliceZ hO
      have HLT := Lib.hid (loT_len zs n ww r k)
      have HS := Lib.hid (show loT zs n ww r (k + 1) = if q.length = 1 then loT zs n ww r k ++ [(k : Int)] else loT zs n ww r k by rw [loT, List.getD_eq_getElem?_getD, hq]; rfl)
      have O5 := Lib.hid (hO.alloc (.cells #[.int .i64 (k : Int)] 3))
      have HOk := Lib.hid hO
      have HBk := Lib.hid hb
      have h1w := hb.size
      have hnl2 : ((num zs ww r k : Nat) : Int) < (gl : Int) := by omega
      have hnn : (0 : Int) ≤ ((num zs ww r k : Nat) : Int) := Int.natCast_nonneg _
      clear hO hb OWr hq hv
      generalize num zs ww r k = p at *
      generalize q.length = ql at *
      generalize loT zs n ww r k = L at *
      by_cases he : ql = 1
      · have g1 : ((ql : Int) == 1) = true := by rw [he]; rfl
        have HL := Lib.hid (show loT zs n ww r (k + 1) = L ++ [(k : Int)] by rw [HS.out, if_pos he])
        subst he
        clear HS
        go_wp2_with (at_builtin; refine wpList_append_any rfl (.tmp 37) (.tmp 39) 26 rfl w1.heap.size 3 iI (.int .i64 0) 1 8 Tryd.underlying26 hiI hzI0 hzI1 hzI2 rfl (by decide) _ L.length (cellsI L) rfl O5.out ⟨wr.heap.size, 0, none⟩ 1 1 [.int .i64 (k : Int)] rfl rfl (cell_one_new _ _ _) (own_.one_cell _ rfl) (by unfold maxLen; have := HLT.out; omega) (by have := HLT.out; omega) (by rw [World.size_alloc]; omega) ?_; intro v6 w6 o6 g6 n6; obtain ⟨A6, c6, rfl⟩ := own_sliceZ o6)
        have O6 := Lib.hid (show w6.ownsRow w1.heap.size 3 1 (.slice A6 (L.length + 1) c6) (loT zs n ww r (k + 1)).length (cellsI (loT zs n ww r (k + 1))) by rw [HL.out]; exact own_growI o6)
        have B6 := Lib.hid ((HBk.out.trans (((Below.refl wr.heap.size wr).alloc (Nat.le_refl _) (.cells #[.int .i64 (k : Int)] 3)).mono h1w)).grown g6 (by rw [World.size_alloc]; omega) (own_.row_ge O5.out))
        clear o6 g6 n6 O5 n0 q0
        go_wp2_with fail
        go_roundw
        case rel => exact ⟨k + 1, by omega, by go_num, O6.out, B6.out⟩
        case measure => simp [intOf]; omega
      · have g1 : ((ql : Int) == 1) = false := beq_eq_false_iff_ne.mpr (by omega)
        have HL := Lib.hid (show loT zs n ww r (k + 1) = L by rw [HS.out, if_neg he])
        clear HS he
        go_wp2_with fail
        go_roundw
        case rel => exact ⟨k + 1, by omega, by go_num, by rw [HL.out]; exact HOk.out, HBk.out⟩
        case measure => simp [intOf]; omega
    · obtain rfl : k = n := by omega
      obtain ⟨A5, c5, rfl⟩ := own_sliceZ hO
      have O6 := Lib.hid (show wr.ownsRow w.heap.size 3 1 (.slice A5 (loT zs k ww r k).length c5) (loV zs k ww r).length (cellsI (loV zs k ww r)) by rw [HV.out]; exact own_.own_base hO HB.out.size)
      have B6 := Lib.hid (HB.out.trans (hb.mono HB.out.size))
      clear hO hb
      generalize (loT zs k ww r k).length = l at *
      go_wp2_with fail
      go_ret2
      exact ⟨_, rfl, O6.out, B6.out⟩

set_option maxRecDepth 100000 in
set_option maxHeartbeats 2000000 in
theorem siteCounts (zs : List Int) (A : Option Addr) (n c : Nat) (w : World) (hn : n ≤ 1048577) (h1 : RdZ 5 w w.heap.size A n zs) :
    Calls Tryd.prog 16 #[.slice A n c] w fun e w' => ∃ v, e = .returned (.tuple #[v, .bool (svB zs n)]) ∧ w'.ownsRow w.heap.size 3 1 v (cnV zs n).length (cellsI (cnV zs n)) ∧ Below w.heap.size w w' := by
  have H := isValidSightings zs A n c w hn h1
  cases hq : svB zs n
  · rw [hq] at H
    have HV := Lib.hid (cnV_no hq)
    have H := Lib.hid H
    clear hq h1
    go_enter Tryd.func16, Tryd.ntmps16
    go_wp2_with fail
    refine H.out.mono ?_
    rintro e w1 ⟨rfl, hb⟩
    have HB := Lib.hid hb
    skip
    skip
    clear hb
    go_wp2_with fail
    go_ret2
    exact ⟨_, rfl, by rw [HV.out]; exact World.ownsRow_nil w1 _ _ _, HB.out⟩
  rw [hq] at H
  have HV := Lib.hid (cnV_yes hq)
  have HS := Lib.hid hq
  have hn20 := (svB_yes hq).2
  obtain ⟨i0, hi, hz0, hz1, hz2⟩ := info_parts infoI
  have HR := Lib.hid h1
  have H := Lib.hid H
  clear hq h1
  go_enter Tryd.func16, Tryd.ntmps16
  go_wp2_with fail
  refine H.out.mono ?_
  rintro e w2 ⟨rfl, hb⟩
  have HB := Lib.hid hb
  clear hb
  go_wp2_with (at_make; refine wpList_make_full _ rfl _ _ 26 rfl w2.heap.size 3 i0 (.int .i64 0) 1 Tryd.underlying26 hi hz0 hz1 _ _ _ _ 9 rfl rfl rfl rfl (by rw [hz2]; omega) (by unfold maxLen; omega) (Nat.le_refl _) ?_; intro w1 hown hg)
  have O1 := Lib.hid (show w1.ownsRow w2.heap.size 3 1 (.slice (some ⟨w2.heap.size, 0, none⟩) 9 9) 9 (cellsI (cnT zs 0)) from by rw [cnT_zero, ← made_zero 9]; exact hown)
  have B1 := Lib.hid ((Below.refl w2.heap.size w2).grown hg (Nat.le_refl _) (fun k e => by cases e))
  clear hown hg
  go_loopw [13] (fun i wr => ∃ k : Nat, k ≤ n ∧ i = .int .i64 k ∧ wr.ownsRow w2.heap.size 3 1 (.slice (some ⟨w2.heap.size, 0, none⟩) 9 9) 9 (cellsI (cnT zs k)) ∧ Below w2.heap.size w2 wr) (fun i _ => n - (intOf i).toNat)
  case atStart => exact ⟨0, Nat.zero_le _, rfl, O1.out, B1.out⟩
  case round =>
    obtain ⟨k, hk, rfl, hO, hb⟩ := hrel
    clear O1 B1
    by_cases hlt : k < n
    · have hlt2 : (k : Int) < (n : Int) := by omega
      obtain ⟨b1, o1, rfl, -, p0, p1, p2, p3, p4⟩ := cellsE (HR.out.below (HB.out.trans (hb.mono HB.out.size)) (Nat.le_refl _)) hlt
      obtain ⟨-, ⟨t1, t9⟩, -⟩ := sv_at HS.out hlt
      obtain ⟨s, hs⟩ : ∃ s : Nat, fld 5 zs k 1 = ((s + 1 : Nat) : Int) := ⟨(fld 5 zs k 1 - 1).toNat, by omega⟩
      have hs9 : s < 9 := by omega
      obtain ⟨v, hv, v0, v1, hset⟩ := cnT_get (zs := zs) (k := k) hs9
      have CG := Lib.hid (show (cellsI (cnT zs k))[s]? = some (.int .i64 v) by unfold cellsI; rw [List.getElem?_map, hv]; rfl)
      have HSET := Lib.hid (show (cellsI (cnT zs k)).set s (.int .i64 (v + 1)) = cellsI (cnT zs (k + 1)) by unfold cellsI; rw [← hset hs, List.map_set])
      have hs0 : (0 : Int) ≤ (s : Int) := Int.natCast_nonneg _
      have hs8 : (s : Int) < 9 := by omega
      have e1 : IntKind.i64.wrap (fld 5 zs k 1 - 1) = (s : Int) := by rw [IntWalk.i64_in _ (by omega)]; omega
      have e2 : IntKind.i64.wrap (v + 1) = v + 1 := IntWalk.i64_in _ (by omega)
      clear hset hv t1 t9 hs hs9
      generalize fld 5 zs k 0 = u0 at *
      generalize fld 5 zs k 1 = u1 at *
      generalize fld 5 zs k 2 = u2 at *
      generalize fld 5 zs k 3 = u3 at *
      generalize fld 5 zs k 4 = u4 at *
      have hs9 : s < 9 := by omega
      have BX := (Below.refl wr.heap.size wr).alloc (Nat.le_refl _) (.cells #[.int .i64 u0, .int .i64 u1, .int .i64 u2, .int .i64 u3, .int .i64 u4] 72)
      have OB := Lib.hid (own_.own_below hO BX)
      have c0 := (OB.out.cellAt s (by omega)).trans (CG.out)
      have r0 := OB.out.frozenAt s
      have HB2 := Lib.hid ((hb.trans (BX.mono hb.size)).setCell (p := ⟨w2.heap.size, s, none⟩) (Nat.le_refl _) (.int .i64 (v + 1)))
      have st := (OB.out.stored s (.int .i64 (v + 1))).1
      rw [HSET.out] at st
      have ST := Lib.hid st
      clear st hO hb CG HSET
      go_wp2_with fail
      go_roundw
      case rel => exact ⟨k + 1, by omega, by go_num, ST.out, HB2.out⟩
      case measure => simp [intOf]; omega
    · obtain rfl : k = n := by omega
      have O6 := Lib.hid (show wr.ownsRow w.heap.size 3 1 (.slice (some ⟨w2.heap.size, 0, none⟩) 9 9) (cnV zs k).length (cellsI (cnV zs k)) by rw [HV.out, cnT_length]; exact own_.own_base hO HB.out.size)
      have B6 := Lib.hid (HB.out.trans (hb.mono HB.out.size))
      clear hO hb
      go_wp2_with fail
      go_ret2
      exact ⟨_, rfl, O6.out, B6.out⟩
end Go.Proofs.YtdjcbfeilkepmaaDoor.pltl

/- spec's GroupSightings, LonelySightings, SiteCounts. -/
namespace Go.Proofs.YtdjcbfeilkepmaaDoor.plth
open Go.RowKit Go.Proofs.YtdjcbfeilkepmaaDoor.ints Go.Proofs.YtdjcbfeilkepmaaDoor.lst Go.Proofs.YtdjcbfeilkepmaaDoor.in_ Go.Proofs.YtdjcbfeilkepmaaDoor.ats Go.Proofs.YtdjcbfeilkepmaaDoor.pos Go.Proofs.YtdjcbfeilkepmaaDoor.plt Go.Proofs.YtdjcbfeilkepmaaDoor.pltm Go.Proofs.YtdjcbfeilkepmaaDoor.plte Go.Proofs.YtdjcbfeilkepmaaDoor.plts Go.Proofs.YtdjcbfeilkepmaaDoor.pltg Go.Proofs.YtdjcbfeilkepmaaDoor.rws

theorem made_zero (n : Nat) : (madeCells (Value.cells (.int .i64 0)) (n * 1)).toList = cellsI (List.replicate n 0) := by
  refine List.ext_getElem (by simp [madeCells, cellsI]) fun i h1 h2 => ?_
  simp [madeCells, Value.cells, Nat.mod_one, cellsI]

set_option maxRecDepth 100000 in
set_option maxHeartbeats 4000000 in
theorem lonelySightings (zs : List Int) (ww r : Int) (A : Option Addr) (n c : Nat) (w : World) (hn : n ≤ 1048577) (h1 : RdZ 5 w w.heap.size A n zs) :
    Calls Tryd.prog 23 #[.slice A n c, .int .i64 ww, .int .i64 r] w fun e w' => ∃ v, e = .returned (.tuple #[v, .bool (asB zs n ww r)]) ∧ w'.ownsRow w.heap.size 3 1 v (loV zs n ww r).length (cellsI (loV zs n ww r)) ∧ Below w.heap.size w w' := by
  have H := fun (W : World) (hb : Below w.heap.size w W) => asked13 zs ww r A n c W hn (h1.next hb)
  have EB := (Below.refl w.heap.size w).alloc (Nat.le_refl _) (.cells #[] 3)
  have EO := own_.own_empty w 3
  have hbo : w.heap.size < (w.alloc (.cells #[] 3)).heap.size := by rw [World.size_alloc]; omega
  cases hq : asB zs n ww r
  · rw [hq] at H
    have HV := Lib.hid (loV_no hq)
    have H := Lib.hid (H _ EB)
    have HEB := Lib.hid EB
    have HEO := Lib.hid EO
    clear hq h1 EB EO
    go_enter Tryd.func23, Tryd.ntmps23
    go_upto_region 2 with fail
    generalize w.alloc (.cells #[] 3) = W0 at *
    go_wp2_with fail
    refine H.out.mono ?_
    rintro e w1 ⟨rfl, hb⟩
    have HB := Lib.hid (HEB.out.trans (hb.mono HEB.out.size))
    have HO := Lib.hid (own_.own_below HEO.out hb)
    clear hb
    go_wp2_with fail
    go_ret2
    exact ⟨_, rfl, by rw [HV.out]; exact HO.out, HB.out⟩
  rw [hq] at H
  have HV := Lib.hid (loV_yes hq)
  have hsv := (asB_yes hq).1
  have hn20 := (svB_yes hsv).2
  have GR := Lib.hid (fun (W : World) (hb : Below w.heap.size w W) => groups13 zs ww r A n c W hsv (h1.next hb))
  obtain ⟨iI, hiI, hzI0, hzI1, hzI2⟩ := info_parts infoI
  have H := Lib.hid (H _ EB)
  have HEB := Lib.hid EB
  have HEO := Lib.hid EO
  clear hq h1 hsv EB EO
  go_enter Tryd.func23, Tryd.ntmps23
  go_upto_region 2 with fail
  generalize w.alloc (.cells #[] 3) = W0 at *
  go_wp2_with fail
  refine H.out.mono ?_
  rintro e w2 ⟨rfl, hb⟩
  have HB2 := Lib.hid (HEB.out.trans (hb.mono HEB.out.size))
  have HO2 := Lib.hid (own_.own_below HEO.out hb)
  have hbo2 : w.heap.size < w2.heap.size := Nat.lt_of_lt_of_le hbo hb.size
  clear hb
  go_wp2_with fail
  refine (GR.out w2 HB2.out).mono ?_
  rintro e w3 ⟨v3, rfl, hG, hb3⟩
  obtain ⟨A3, c3, rfl⟩ := hG.slice
  have O3 := Lib.hid (own_.own_below HO2.out hb3)
  have B3 := Lib.hid (HB2.out.trans (hb3.mono HB2.out.size))
  have HG := Lib.hid hG
  have HNE := Lib.hid (grp_ne (zs := zs) (w := ww) (r := r) (k := n))
  have HGL := Lib.hid (Nat.le_trans (grp_len zs ww r n) hn20)
  have ALL := Lib.hid (lo_is zs n ww r)
  have hw3 : w.heap.size < w3.heap.size := Nat.lt_of_lt_of_le hbo2 hb3.size
  clear hG hb3 GR HB2 HO2 HEB HEO H
  generalize grp zs ww r n = G at *
  generalize hgl : G.length = gl at *
  have HGE := Lib.hid hgl
  clear hgl
  go_wp2_with fail
  go_loopw [8, 10] (fun v i wr => ∃ g : Nat, g ≤ gl ∧ i = .int .i64 g ∧ wr.ownsRow w.heap.size 3 1 v (lsT G g).length (cellsI (lsT G g)) ∧ w3.grownBy wr (some w.heap.size) ∧ (∀ x, v.ownBlock = some x → x = w.heap.size ∨ w3.heap.size ≤ x) ∧ Below w.heap.size w wr) (fun _ i _ => gl - (intOf i).toNat)
  case atStart => exact ⟨0, Nat.zero_le _, rfl, O3.out, grown_refl _ _, fun x hx => .inl (by injection hx with hx; exact hx.symm), B3.out⟩
  case round =>
    obtain ⟨g, hg, rfl, hO, hgr, hbl, hb⟩ := hrel
    clear O3
    have hgl20 := HGL.out
    by_cases hlt : g < gl
    · have hlt2 : (g : Int) < (gl : Int) := by omega
      obtain ⟨q, hq⟩ : ∃ q, G[g]? = some q := ⟨_, List.getElem?_eq_getElem (by rw [HGE.out]; exact hlt)⟩
      have hq0 := HNE.out g q hq
      obtain ⟨ob, oc, gb, uc, hv, hob, hBo, q0', -, hgb, qc, ow, -⟩ := HG.out.read hq hq0
      obtain rfl : A3 = some ⟨ob, 0, none⟩ := by injection hv
      have hBg := (ow.lt gb rfl).1
      have q0 := hgr.cell (a := ⟨ob, g, none⟩) q0' (fun e => by injection e with e; simp at e; omega)
      have hq00 : q[0]? = some (q.headD 0) := by cases q with
        | nil => simp at hq0
        | cons a l => rfl
      have q1 := hgr.cell (a := ⟨gb, 0, none⟩) (qc 0 _ hq00) (fun e => by injection e with e; simp at e; omega)
      obtain ⟨A5, c5, rfl⟩ := own_sliceZ hO
      have HS := Lib.hid (show lsT G (g + 1) = if q.length = 1 then lsT G g ++ [((q.headD 0 : Nat) : Int)] else lsT G g by rw [lsT, List.getD_eq_getElem?_getD, hq]; rfl)
      have HLL := Lib.hid (lsT_len G g)
      have HOk := Lib.hid hO
      have HGR := Lib.hid hgr
      have HBL := Lib.hid hbl
      have HBk := Lib.hid hb
      have hwr := hb.size
      have hql1 : (0 : Int) < (q.length : Int) := by omega
      clear hv hob hBo q0' hgb qc ow hBg hq hO hgr hbl hb hq00
      generalize q.headD 0 = m at *
      generalize hql : q.length = ql at *
      clear hql
      generalize lsT G g = L at *
      by_cases he : ql = 1
      · have g1 : ((ql : Int) == 1) = true := by rw [he]; rfl
        have HL := Lib.hid (show lsT G (g + 1) = L ++ [(m : Int)] by rw [HS.out, if_pos he])
        subst he
        clear HS
        have O5 := Lib.hid (HOk.out.alloc (.cells #[.int .i64 (m : Int)] 3))
        go_wp2_with (at_builtin; refine wpList_append_any rfl (.tmp 34) (.tmp 41) 26 rfl w.heap.size 3 iI (.int .i64 0) 1 8 Tryd.underlying26 hiI hzI0 hzI1 hzI2 rfl (by decide) _ L.length (cellsI L) rfl O5.out ⟨wr.heap.size, 0, none⟩ 1 1 [.int .i64 (m : Int)] rfl rfl (cell_one_new _ _ _) (own_.one_cell _ rfl) (by unfold maxLen; have := HLL.out; omega) (by have := HLL.out; omega) (by rw [World.size_alloc]; omega) ?_; intro v6 w6 o6 g6 n6; obtain ⟨A6, c6, rfl⟩ := own_sliceZ o6)
        have O6 := Lib.hid (show w6.ownsRow w.heap.size 3 1 (.slice A6 (L.length + 1) c6) (lsT G (g + 1)).length (cellsI (lsT G (g + 1))) by rw [HL.out]; exact own_growI o6)
        have B6 := Lib.hid ((HBk.out.alloc HBk.out.size (.cells #[.int .i64 (m : Int)] 3)).grown g6 (by rw [World.size_alloc]; omega) (own_.row_ge O5.out))
        have GR6 := Lib.hid (grown_far (grown_far HGR.out (grown_allocZ wr (.cells #[.int .i64 (m : Int)] 3) (some w.heap.size)) (fun x e => .inl (by injection e with e; exact e.symm))) g6 (fun x e => HBL.out x e))
        have N6 := Lib.hid (show ∀ x, (Value.slice A6 (L.length + 1) c6).ownBlock = some x → x = w.heap.size ∨ w3.heap.size ≤ x from fun x e => by
          rcases n6 with h | h
          · exact HBL.out x (h.symm.trans e)
          · rw [h] at e
            injection e with e
            have := HGR.out.size
            rw [World.size_alloc] at e
            right; omega)
        clear o6 g6 n6 O5 q0 q1 HBL HGR
        go_wp2_with fail
        go_roundw
        case rel => exact ⟨g + 1, by omega, by go_num, O6.out, GR6.out, N6.out, B6.out⟩
        case measure => simp [intOf]; omega
      · have g1 : ((ql : Int) == 1) = false := beq_eq_false_iff_ne.mpr (by omega)
        have HL := Lib.hid (show lsT G (g + 1) = L by rw [HS.out, if_neg he])
        clear HS he
        go_wp2_with fail
        go_roundw
        case rel => exact ⟨g + 1, by omega, by go_num, by rw [HL.out]; exact HOk.out, HGR.out, HBL.out, HBk.out⟩
        case measure => simp [intOf]; omega
    · obtain rfl : g = gl := by omega
      obtain ⟨A5, c5, rfl⟩ := own_sliceZ hO
      have O6 := Lib.hid (show wr.ownsRow w.heap.size 3 1 (.slice A5 (lsT G g).length c5) (loV zs n ww r).length (cellsI (loV zs n ww r)) by rw [HV.out, ← ALL.out]; exact hO)
      have B6 := Lib.hid hb
      clear hO hb hgr hbl
      generalize (lsT G g).length = l at *
      go_wp2_with fail
      go_ret2
      exact ⟨_, rfl, O6.out, B6.out⟩

set_option maxRecDepth 100000 in
set_option maxHeartbeats 2000000 in
theorem siteCounts (zs : List Int) (A : Option Addr) (n c : Nat) (w : World) (hn : n ≤ 1048577) (h1 : RdZ 5 w w.heap.size A n zs) :
    Calls Tryd.prog 17 #[.slice A n c] w fun e w' => ∃ v, e = .returned (.tuple #[v, .bool (svB zs n)]) ∧ w'.ownsRow w.heap.size 3 1 v (cnV zs n).length (cellsI (cnV zs n)) ∧ Below w.heap.size w w' := by
  have H := good13 zs A n c w hn h1
  cases hq : svB zs n
  · rw [hq] at H
    have HV := Lib.hid (cnV_no hq)
    have H := Lib.hid H
    clear hq h1
    go_enter Tryd.func17, Tryd.ntmps17
    go_wp2_with fail
    refine H.out.mono ?_
    rintro e w1 ⟨rfl, hb⟩
    have HB := Lib.hid hb
    have EO := Lib.hid (own_.own_empty w1 3)
    have EB := Lib.hid (hb.alloc hb.size (.cells #[] 3))
    clear hb
    go_wp2_with fail
    go_ret2
    exact ⟨_, rfl, by rw [HV.out]; exact own_.own_base EO.out HB.out.size, EB.out⟩
  rw [hq] at H
  have HV := Lib.hid (cnV_yes hq)
  have HS := Lib.hid hq
  have hn20 := (svB_yes hq).2
  obtain ⟨i0, hi, hz0, hz1, hz2⟩ := info_parts infoI
  have HR := Lib.hid h1
  have H := Lib.hid H
  clear hq h1
  go_enter Tryd.func17, Tryd.ntmps17
  go_wp2_with fail
  refine H.out.mono ?_
  rintro e w2 ⟨rfl, hb⟩
  have HB := Lib.hid hb
  clear hb
  go_wp2_with (at_make; refine wpList_make_full _ rfl _ _ 26 rfl w2.heap.size 3 i0 (.int .i64 0) 1 Tryd.underlying26 hi hz0 hz1 _ _ _ _ 9 rfl rfl rfl rfl (by rw [hz2]; omega) (by unfold maxLen; omega) (Nat.le_refl _) ?_; intro w1 hown hg)
  have O1 := Lib.hid (show w1.ownsRow w2.heap.size 3 1 (.slice (some ⟨w2.heap.size, 0, none⟩) 9 9) 9 (cellsI (cnT zs 0)) from by rw [cnT_zero, ← made_zero 9]; exact hown)
  have B1 := Lib.hid ((Below.refl w2.heap.size w2).grown hg (Nat.le_refl _) (fun k e => by cases e))
  clear hown hg
  go_loopw [5] (fun i wr => ∃ k : Nat, k ≤ n ∧ i = .int .i64 k ∧ wr.ownsRow w2.heap.size 3 1 (.slice (some ⟨w2.heap.size, 0, none⟩) 9 9) 9 (cellsI (cnT zs k)) ∧ Below w2.heap.size w2 wr) (fun i _ => n - (intOf i).toNat)
  case atStart => exact ⟨0, Nat.zero_le _, rfl, O1.out, B1.out⟩
  case round =>
    obtain ⟨k, hk, rfl, hO, hb⟩ := hrel
    clear O1 B1
    by_cases hlt : k < n
    · have hlt2 : (k : Int) < (n : Int) := by omega
      obtain ⟨b1, o1, rfl, -, p0, p1, p2, p3, p4⟩ := cellsE (HR.out.below (HB.out.trans (hb.mono HB.out.size)) (Nat.le_refl _)) hlt
      obtain ⟨-, ⟨t1, t9⟩, -⟩ := sv_at HS.out hlt
      obtain ⟨s, hs⟩ : ∃ s : Nat, fld 5 zs k 1 = ((s + 1 : Nat) : Int) := ⟨(fld 5 zs k 1 - 1).toNat, by omega⟩
      have hs9 : s < 9 := by omega
      obtain ⟨v, hv, v0, v1, hset⟩ := cnT_get (zs := zs) (k := k) hs9
      have CG := Lib.hid (show (cellsI (cnT zs k))[s]? = some (.int .i64 v) by unfold cellsI; rw [List.getElem?_map, hv]; rfl)
      have HSET := Lib.hid (show (cellsI (cnT zs k)).set s (.int .i64 (v + 1)) = cellsI (cnT zs (k + 1)) by unfold cellsI; rw [← hset hs, List.map_set])
      have hs0 : (0 : Int) ≤ (s : Int) := Int.natCast_nonneg _
      have hs8 : (s : Int) < 9 := by omega
      have e1 : IntKind.i64.wrap (fld 5 zs k 1 - 1) = (s : Int) := by rw [IntWalk.i64_in _ (by omega)]; omega
      have e2 : IntKind.i64.wrap (v + 1) = v + 1 := IntWalk.i64_in _ (by omega)
      clear hset hv t1 t9 hs hs9
      generalize fld 5 zs k 0 = u0 at *
      generalize fld 5 zs k 1 = u1 at *
      generalize fld 5 zs k 2 = u2 at *
      generalize fld 5 zs k 3 = u3 at *
      generalize fld 5 zs k 4 = u4 at *
      have hs9 : s < 9 := by omega
      have OB := Lib.hid hO
      have c0 := (OB.out.cellAt s (by omega)).trans (CG.out)
      have r0 := OB.out.frozenAt s
      have HB2 := Lib.hid (hb.setCell (p := ⟨w2.heap.size, s, none⟩) (Nat.le_refl _) (.int .i64 (v + 1)))
      have st := (OB.out.stored s (.int .i64 (v + 1))).1
      rw [HSET.out] at st
      have ST := Lib.hid st
      clear st hO hb CG HSET
      go_wp2_with fail
      go_roundw
      case rel => exact ⟨k + 1, by omega, by go_num, ST.out, HB2.out⟩
      case measure => simp [intOf]; omega
    · obtain rfl : k = n := by omega
      have O6 := Lib.hid (show wr.ownsRow w.heap.size 3 1 (.slice (some ⟨w2.heap.size, 0, none⟩) 9 9) (cnV zs k).length (cellsI (cnV zs k)) by rw [HV.out, cnT_length]; exact own_.own_base hO HB.out.size)
      have B6 := Lib.hid (HB.out.trans (hb.mono HB.out.size))
      clear hO hb
      go_wp2_with fail
      go_ret2
      exact ⟨_, rfl, O6.out, B6.out⟩
end Go.Proofs.YtdjcbfeilkepmaaDoor.plth

/- spec's ParsePlot. -/
namespace Go.Proofs.YtdjcbfeilkepmaaDoor.ptxs
open Go.RowKit Go.Proofs.YtdjcbfeilkepmaaDoor.num Go.Proofs.YtdjcbfeilkepmaaDoor.read Go.Proofs.YtdjcbfeilkepmaaDoor.ints Go.Proofs.YtdjcbfeilkepmaaDoor.lst Go.Proofs.YtdjcbfeilkepmaaDoor.ats Go.Proofs.YtdjcbfeilkepmaaDoor.plt Go.Proofs.YtdjcbfeilkepmaaDoor.pltm Go.Proofs.YtdjcbfeilkepmaaDoor.ptx Go.Proofs.YtdjcbfeilkepmaaDoor.ptxt Go.Proofs.YtdjcbfeilkepmaaDoor.ptxi Go.Proofs.YtdjcbfeilkepmaaDoor.rws Go.Proofs.YtdjcbfeilkepmaaDoor.split_ Go.Proofs.YtdjcbfeilkepmaaDoor.tailh

theorem l1Read (s : ByteArray) (w : World) :
    Calls Tryd.prog 44 #[.string s] w fun e w' => e = .returned (.tuple #[.int .i64 (rdN s), .bool (rdB s)]) ∧ ∃ j, w' = w.drewN j := by
  rcases Nat.lt_or_ge 1 s.size with h1 | h1
  · cases h : ((s[0].toNat : Int) == 45)
    · exact spec_pos s w (.inr ⟨by omega, h⟩)
    · exact spec_neg s w h1 h
  · exact spec_pos s w (.inl h1)
theorem sub_list (s : ByteArray) (a b : Nat) : (s.extract a b).data.toList = (s.data.toList.drop a).take (b - a) := by
  obtain ⟨⟨l⟩⟩ := s
  rw [show (⟨⟨l⟩⟩ : ByteArray) = ByteArray.mk l.toArray from rfl, Go.ByteArray.extract_mk]
theorem ext_last {a x : ByteArray} {c : UInt8} {m : Nat} (hx : x = a ++ ⟨#[c]⟩) (hm : x.size = m + 1) : x.extract 0 m = a := by
  subst hx
  rw [ByteArray.size_append] at hm
  have h1 : a.size = m := by
    have : (⟨#[c]⟩ : ByteArray).size = 1 := rfl
    omega
  refine aid.str_ext ?_
  rw [sub_list, aid.str_app, List.drop_zero, Nat.sub_zero, List.take_append_of_le_length (by rw [len_list]; omega), List.take_of_length_le (by rw [len_list]; omega)]
theorem six {xs : List ByteArray} (h : xs.length = 6) : ∃ a b c d e f, xs = [a, b, c, d, e, f] := by
  match xs, h with
  | [a, b, c, d, e, f], _ => exact ⟨a, b, c, d, e, f, rfl⟩
theorem two {xs : List ByteArray} (h : xs.length = 2) : ∃ a b, xs = [a, b] := by
  match xs, h with
  | [a, b], _ => exact ⟨a, b, rfl⟩
/-- The words of a text that is a plot's. -/
theorem sp1 {t : ByteArray} {xs : List ByteArray} (h : ppB t = true) (hx : xs.map (·.data.toList) = pieces 32 t.data.toList []) : t.size ≤ 60 ∧ xs.length = 6 := by
  obtain ⟨hv, ht⟩ := pp_yes h
  have hw := words rfl hv
  have hz := ptx_size rfl hv
  rw [ht] at hw hz
  rw [hw] at hx
  have := congrArg List.length hx
  rw [List.length_map] at this
  exact ⟨hz, this⟩
theorem sp2 {t x0 x1 x2 x3 x4 x5 : ByteArray} (h : ppB t = true) (hx : [x0, x1, x2, x3, x4, x5].map (·.data.toList) = pieces 32 t.data.toList []) :
    x0 = txt (rS t) ++ ⟨#[58]⟩ ∧ x1 = txt (rA t) ∧ x3 = txt (rX t) ++ ⟨#[47]⟩ ++ txt (rY t) ∧ x5.data.toList = (rL t).map dgc := by
  obtain ⟨hv, ht⟩ := pp_yes h
  have hw := words rfl hv
  rw [ht] at hw
  rw [hw] at hx
  simp only [List.map_cons, List.map_nil, List.cons.injEq, and_true] at hx
  exact ⟨aid.str_ext hx.1, aid.str_ext hx.2.1, aid.str_ext hx.2.2.2.1, hx.2.2.2.2.2⟩
theorem sp3 {t x0 x1 x2 x3 x4 x5 : ByteArray} {m : Nat} (h : ppB t = true) (hx : [x0, x1, x2, x3, x4, x5].map (·.data.toList) = pieces 32 t.data.toList []) :
    2 ≤ x0.size ∧ (x0.size = m + 1 → rdB (x0.extract 0 m) = true ∧ rdN (x0.extract 0 m) = rS t) ∧ (rdB x1 = true ∧ rdN x1 = rA t) ∧ st x5.data.toList = rL t := by
  obtain ⟨h0, h1, -, h5⟩ := sp2 h hx
  obtain ⟨hv, -⟩ := pp_yes h
  obtain ⟨hs, ha, hp, hn, hr⟩ := plB_yes hv
  refine ⟨?_, fun hm => ?_, ?_, ?_⟩
  · rw [h0, ByteArray.size_append]
    have := (txt_len (n := rS t) (by omega) (by omega)).1
    rw [len_list] at this
    show 2 ≤ _ + 1
    omega
  · rw [ext_last h0 hm]
    exact hgtt.rdN_txt (by omega) (by omega)
  · rw [h1]
    exact hgtt.rdN_txt (by omega) (by omega)
  · rw [h5]; exact st_dgc (ri_mem rfl hr)
theorem sp4 {t x0 x1 x2 x3 x4 x5 : ByteArray} {ys : List ByteArray} (h : ppB t = true) (hx : [x0, x1, x2, x3, x4, x5].map (·.data.toList) = pieces 32 t.data.toList []) (hy : ys.map (·.data.toList) = pieces 47 x3.data.toList []) : ys.length = 2 := by
  obtain ⟨-, -, h3, -⟩ := sp2 h hx
  obtain ⟨hv, -⟩ := pp_yes h
  obtain ⟨hs, ha, hp, hn, hr⟩ := plB_yes hv
  rw [h3, places (by omega) (by omega)] at hy
  have := congrArg List.length hy
  rw [List.length_map] at this
  exact this
theorem sp5 {t x0 x1 x2 x3 x4 x5 y0 y1 : ByteArray} (h : ppB t = true) (hx : [x0, x1, x2, x3, x4, x5].map (·.data.toList) = pieces 32 t.data.toList []) (hy : [y0, y1].map (·.data.toList) = pieces 47 x3.data.toList []) : (rdB y0 = true ∧ rdN y0 = rX t) ∧ rdB y1 = true ∧ rdN y1 = rY t := by
  obtain ⟨-, -, h3, -⟩ := sp2 h hx
  obtain ⟨hv, -⟩ := pp_yes h
  obtain ⟨hs, ha, hp, hn, hr⟩ := plB_yes hv
  rw [h3, places (by omega) (by omega)] at hy
  simp only [List.map_cons, List.map_nil, List.cons.injEq, and_true] at hy
  rw [aid.str_ext hy.1, aid.str_ext hy.2]
  exact ⟨hgtt.rdN_txt (by omega) (by omega), hgtt.rdN_txt (by omega) (by omega)⟩
theorem pieces_size (b : UInt8) : ∀ (l cur x : List UInt8), x ∈ pieces b l cur → x.length ≤ cur.length + l.length
  | [], cur, x, h => by
    simp [pieces] at h
    subst h
    omega
  | c :: l, cur, x, h => by
    rw [pieces] at h
    by_cases e : c = b
    · rw [if_pos e] at h
      rcases List.mem_cons.1 h with rfl | h
      · simp only [List.length_cons]; omega
      · have := pieces_size b l [] x h
        simp only [List.length_nil, List.length_cons] at *
        omega
    · rw [if_neg e] at h
      have := pieces_size b l (cur ++ [c]) x h
      simp only [List.length_append, List.length_cons, List.length_nil] at *
      omega
theorem xs_size {s : ByteArray} {xs : List ByteArray} (h : xs.map (·.data.toList) = pieces 32 s.data.toList []) {x : ByteArray} (hx : x ∈ xs) : x.size ≤ s.size := by
  have hm : x.data.toList ∈ pieces 32 s.data.toList [] := by rw [← h]; exact List.mem_map.2 ⟨x, hx, rfl⟩
  have := pieces_size 32 _ _ _ hm
  rw [len_list, len_list] at this
  simpa using this
theorem own_ne {w : World} {B e s n b : Nat} {v : Value} {xs : List Value} {cs : Array Value} {T : TypeId} {fr : Nat × Nat} (h : w.ownsRow B e s v n xs) (hb : w.heap[b]? = some (.cells cs T fr)) (hT : e ≠ T) : v.ownBlock ≠ some b := by
  rcases h.2 with ⟨rfl, _⟩ | ⟨g, cap, cur, rfl, _, hh, _⟩
  · intro e; cases e
  · intro e1
    injection e1 with e1
    subst e1
    rw [hh] at hb
    injection hb with hb
    injection hb with _ hb
    exact hT hb
theorem own_strs {w : World} {B e n : Nat} {v : Value} {xs : List ByteArray} (h : w.ownsRow B e 1 v n (xs.map Value.string)) : ∃ A c, v = .slice A n c := by
  rcases h.2 with ⟨rfl, h0⟩ | ⟨g, cap, cur, rfl, _⟩
  · exact ⟨_, _, by rw [h0]⟩
  · exact ⟨_, _, rfl⟩
theorem strs_at {w : World} {B e n c : Nat} {A : Option Addr} {xs : List ByteArray} (h : w.ownsRow B e 1 (.slice A n c) n (xs.map Value.string)) (h0 : 0 < n) : ∃ g, A = some ⟨g, 0, none⟩ ∧ B ≤ g ∧ g < w.heap.size ∧ ∀ k x, xs[k]? = some x → w.cell? ⟨g, k, none⟩ = some (.string x) := by
  rcases h.2 with ⟨_, e⟩ | ⟨g, cap, cur, hv, hB, hh, _⟩
  · omega
  · injection hv with hA
    subst hA
    refine ⟨g, rfl, hB, (Array.getElem?_eq_some_iff.1 hh).1, fun k x hx => ?_⟩
    have h2 := h.cells (g := g) rfl k (.string x) (by rw [List.getElem?_map, hx]; rfl)
    rw [Addr.add_lit] at h2
    simpa using h2

set_option maxRecDepth 100000 in
set_option maxHeartbeats 16000000 in
theorem parsePlotS (t : ByteArray) (w : World) (hs : t.size ≤ 1048576) :
    Calls Tryd.prog 14 #[.string t] w fun e w' => ∃ v, e = .returned (.tuple #[.agg #[.int .i64 (pS t), .int .i64 (pA t), .int .i64 (pX t), .int .i64 (pY t), v], .bool (ppB t)]) ∧ w'.ownsRow w.heap.size 3 1 v (pL t).length (cellsI (pL t)) ∧ Below w.heap.size w w' := by
  obtain ⟨iI, hiI, hzI0, hzI1, hzI2⟩ := info_parts infoI
  have HNo := Lib.hid (fun (h : ppB t = false) => show pS t = 0 ∧ pA t = 0 ∧ pX t = 0 ∧ pY t = 0 ∧ pL t = [] ∧ ppB t = false from ⟨(p_no h).1, (p_no h).2.1, (p_no h).2.2.1, (p_no h).2.2.2.1, (p_no h).2.2.2.2, h⟩)
  have HYe := Lib.hid (fun s a x y L m (hl : List.length L = m) (h : plB s a x y L m = true) (ht : ((ptxT s a x y L m).toList == t.toList) = true) => show pS t = s ∧ pA t = a ∧ pX t = x ∧ pY t = y ∧ pL t = L ∧ ppB t = true from by
    obtain ⟨h1, h2, h3, h4, h5, h6⟩ := pp_text hl h (str_of ht)
    obtain ⟨g1, g2, g3, g4, g5⟩ := p_yes h1
    exact ⟨g1.trans h2, g2.trans h3, g3.trans h4, g4.trans h5, g5.trans h6, h1⟩)
  have HS := Lib.hid (fun w => l1Split t 32 w hs)
  have Z0 := Lib.hid ((newS 28 #[.int .i64 0, .int .i64 0, .int .i64 0, .int .i64 0, .slice none 0 0] w).alloc (.cells #[.int .i64 0, .int .i64 0, .int .i64 0, .int .i64 0, .slice none 0 0] 28))
  have V0 := (newS 28 #[.int .i64 0, .int .i64 0, .int .i64 0, .int .i64 0, .slice none 0 0] w).next 28 #[.int .i64 0, .int .i64 0, .int .i64 0, .int .i64 0, .slice none 0 0]
  rw [World.size_alloc] at V0
  have V0 := Lib.hid V0
  have HZ := Lib.hid (show ((w.alloc (.cells #[.int .i64 0, .int .i64 0, .int .i64 0, .int .i64 0, .slice none 0 0] 28)).alloc (.cells #[.int .i64 0, .int .i64 0, .int .i64 0, .int .i64 0, .slice none 0 0] 28)).heap.size = w.heap.size + 1 + 1 by rw [World.size_alloc, World.size_alloc])
  have hsi : (t.size : Int) ≤ 1048576 := by omega
  go_enter Tryd.func14, Tryd.ntmps14
  go_wp2_with fail
  generalize (w.alloc (.cells #[.int .i64 0, .int .i64 0, .int .i64 0, .int .i64 0, .slice none 0 0] 28)).alloc (.cells #[.int .i64 0, .int .i64 0, .int .i64 0, .int .i64 0, .slice none 0 0] 28) = W at *
  refine (HS.out _).mono ?_
  rintro e w1 ⟨v, xs, rfl, hown, hb1, hpc⟩
  have ZQ := Lib.hid (Z0.out.old hb1)
  have NQ := Lib.hid (V0.out.old hb1)
  have HPC := Lib.hid hpc
  have hsz : ∀ t' ∈ xs, t'.size ≤ 1048576 := fun t' ht => Nat.le_trans (xs_size hpc ht) hs
  obtain ⟨A, c, rfl⟩ := own_strs hown
  clear hb1 Z0 V0 HS hpc
  by_cases h60 : t.size ≤ 60
  rotate_left
  · have q1 : decide ((60 : Int) < (t.size : Int)) = true := decide_eq_true (by omega)
    have HN := Lib.hid (HNo.out (Bool.eq_false_iff.2 (fun hp => absurd (sp1 hp HPC.out).1 h60)))
    have n0 : w1.cell? ⟨(w.heap.size + 1), 0, none⟩ = some (.int .i64 0) := NQ.out.cell 0
    have n1 : w1.cell? ⟨(w.heap.size + 1), 1, none⟩ = some (.int .i64 0) := NQ.out.cell 1
    have n2 : w1.cell? ⟨(w.heap.size + 1), 2, none⟩ = some (.int .i64 0) := NQ.out.cell 2
    have n3 : w1.cell? ⟨(w.heap.size + 1), 3, none⟩ = some (.int .i64 0) := NQ.out.cell 3
    have n4 : w1.cell? ⟨(w.heap.size + 1), 4, none⟩ = some (.slice none 0 0) := NQ.out.cell 4
    have z0 : w1.cell? ⟨w.heap.size, 0, none⟩ = some (.int .i64 0) := ZQ.out.cell 0
    have zf0 := ZQ.out.frozen 0
    have z1 : w1.cell? ⟨w.heap.size, 1, none⟩ = some (.int .i64 0) := ZQ.out.cell 1
    have zf1 := ZQ.out.frozen 1
    have z2 : w1.cell? ⟨w.heap.size, 2, none⟩ = some (.int .i64 0) := ZQ.out.cell 2
    have zf2 := ZQ.out.frozen 2
    have z3 : w1.cell? ⟨w.heap.size, 3, none⟩ = some (.int .i64 0) := ZQ.out.cell 3
    have zf3 := ZQ.out.frozen 3
    have z4 : w1.cell? ⟨w.heap.size, 4, none⟩ = some (.slice none 0 0) := ZQ.out.cell 4
    have zf4 := ZQ.out.frozen 4
    have HE := Lib.hid (((((ZQ.out.set 0 (.int .i64 0)).set 1 (.int .i64 0)).set 2 (.int .i64 0)).set 3 (.int .i64 0)).set 4 (.slice none 0 0))
    go_wp2_with fail
    have hl := HE.out.load Tryd.underlying28 rfl (by kernel_rfl)
    refine bodyPost_ret (v := .tuple #[.agg #[.int .i64 0, .int .i64 0, .int .i64 0, .int .i64 0, .slice none 0 0], .bool false]) ?_ rfl ⟨.slice none 0 0, by rw [HN.out.1, HN.out.2.1, HN.out.2.2.1, HN.out.2.2.2.1, HN.out.2.2.2.2.2], by rw [HN.out.2.2.2.2.1]; exact World.ownsRow_nil .., HE.out.1⟩
    rw [results_cell_tmp rfl]
    simp [asAddr, Result.andThen, hl]
  have q1 : decide ((60 : Int) < (t.size : Int)) = false := decide_eq_false (by omega)
  by_cases h6 : xs.length = 6
  rotate_left
  · have q2 : ((xs.length : Int) != 6) = true := by simp; omega
    have HN6 := Lib.hid (Bool.eq_false_iff.2 (fun hp => absurd (sp1 hp HPC.out).2 h6))
    generalize xs.length = xl at *
    have HN := Lib.hid (HNo.out (HN6.out))
    have n0 : w1.cell? ⟨(w.heap.size + 1), 0, none⟩ = some (.int .i64 0) := NQ.out.cell 0
    have n1 : w1.cell? ⟨(w.heap.size + 1), 1, none⟩ = some (.int .i64 0) := NQ.out.cell 1
    have n2 : w1.cell? ⟨(w.heap.size + 1), 2, none⟩ = some (.int .i64 0) := NQ.out.cell 2
    have n3 : w1.cell? ⟨(w.heap.size + 1), 3, none⟩ = some (.int .i64 0) := NQ.out.cell 3
    have n4 : w1.cell? ⟨(w.heap.size + 1), 4, none⟩ = some (.slice none 0 0) := NQ.out.cell 4
    have z0 : w1.cell? ⟨w.heap.size, 0, none⟩ = some (.int .i64 0) := ZQ.out.cell 0
    have zf0 := ZQ.out.frozen 0
    have z1 : w1.cell? ⟨w.heap.size, 1, none⟩ = some (.int .i64 0) := ZQ.out.cell 1
    have zf1 := ZQ.out.frozen 1
    have z2 : w1.cell? ⟨w.heap.size, 2, none⟩ = some (.int .i64 0) := ZQ.out.cell 2
    have zf2 := ZQ.out.frozen 2
    have z3 : w1.cell? ⟨w.heap.size, 3, none⟩ = some (.int .i64 0) := ZQ.out.cell 3
    have zf3 := ZQ.out.frozen 3
    have z4 : w1.cell? ⟨w.heap.size, 4, none⟩ = some (.slice none 0 0) := ZQ.out.cell 4
    have zf4 := ZQ.out.frozen 4
    have HE := Lib.hid (((((ZQ.out.set 0 (.int .i64 0)).set 1 (.int .i64 0)).set 2 (.int .i64 0)).set 3 (.int .i64 0)).set 4 (.slice none 0 0))
    go_wp2_with fail
    have hl := HE.out.load Tryd.underlying28 rfl (by kernel_rfl)
    refine bodyPost_ret (v := .tuple #[.agg #[.int .i64 0, .int .i64 0, .int .i64 0, .int .i64 0, .slice none 0 0], .bool false]) ?_ rfl ⟨.slice none 0 0, by rw [HN.out.1, HN.out.2.1, HN.out.2.2.1, HN.out.2.2.2.1, HN.out.2.2.2.2.2], by rw [HN.out.2.2.2.2.1]; exact World.ownsRow_nil .., HE.out.1⟩
    rw [results_cell_tmp rfl]
    simp [asAddr, Result.andThen, hl]
  obtain ⟨x0, x1, x2, x3, x4, x5, rfl⟩ := six h6
  obtain ⟨gw, rfl, hgB, hgw, hcw⟩ := strs_at hown (show 0 < [x0, x1, x2, x3, x4, x5].length by rw [h6]; omega)
  have k0 := hcw 0 x0 rfl
  have k1 := hcw 1 x1 rfl
  have k3 := hcw 3 x3 rfl
  have k5 := hcw 5 x5 rfl
  have z0 := hsz x0 (by simp)
  have z1 := hsz x1 (by simp)
  have z3 := hsz x3 (by simp)
  have z5' := hsz x5 (by simp)
  clear hown hcw hsz h6
  simp only [List.length_cons, List.length_nil, Nat.zero_add, Nat.reduceAdd]
  by_cases h2 : x0.size < 2
  · have q3 : decide ((x0.size : Int) < 2) = true := decide_eq_true (by omega)
    have q4 : (x0.size : Int) < 2 := by omega
    have HN6 := Lib.hid (Bool.eq_false_iff.2 (fun hp => by have := (sp3 (m := 0) hp HPC.out).1; omega))
    clear k1 k3 k5
    have HN := Lib.hid (HNo.out (HN6.out))
    have n0 : w1.cell? ⟨(w.heap.size + 1), 0, none⟩ = some (.int .i64 0) := NQ.out.cell 0
    have n1 : w1.cell? ⟨(w.heap.size + 1), 1, none⟩ = some (.int .i64 0) := NQ.out.cell 1
    have n2 : w1.cell? ⟨(w.heap.size + 1), 2, none⟩ = some (.int .i64 0) := NQ.out.cell 2
    have n3 : w1.cell? ⟨(w.heap.size + 1), 3, none⟩ = some (.int .i64 0) := NQ.out.cell 3
    have n4 : w1.cell? ⟨(w.heap.size + 1), 4, none⟩ = some (.slice none 0 0) := NQ.out.cell 4
    have z0 : w1.cell? ⟨w.heap.size, 0, none⟩ = some (.int .i64 0) := ZQ.out.cell 0
    have zf0 := ZQ.out.frozen 0
    have z1 : w1.cell? ⟨w.heap.size, 1, none⟩ = some (.int .i64 0) := ZQ.out.cell 1
    have zf1 := ZQ.out.frozen 1
    have z2 : w1.cell? ⟨w.heap.size, 2, none⟩ = some (.int .i64 0) := ZQ.out.cell 2
    have zf2 := ZQ.out.frozen 2
    have z3 : w1.cell? ⟨w.heap.size, 3, none⟩ = some (.int .i64 0) := ZQ.out.cell 3
    have zf3 := ZQ.out.frozen 3
    have z4 : w1.cell? ⟨w.heap.size, 4, none⟩ = some (.slice none 0 0) := ZQ.out.cell 4
    have zf4 := ZQ.out.frozen 4
    have HE := Lib.hid (((((ZQ.out.set 0 (.int .i64 0)).set 1 (.int .i64 0)).set 2 (.int .i64 0)).set 3 (.int .i64 0)).set 4 (.slice none 0 0))
    go_wp2_with fail
    have hl := HE.out.load Tryd.underlying28 rfl (by kernel_rfl)
    refine bodyPost_ret (v := .tuple #[.agg #[.int .i64 0, .int .i64 0, .int .i64 0, .int .i64 0, .slice none 0 0], .bool false]) ?_ rfl ⟨.slice none 0 0, by rw [HN.out.1, HN.out.2.1, HN.out.2.2.1, HN.out.2.2.2.1, HN.out.2.2.2.2.2], by rw [HN.out.2.2.2.2.1]; exact World.ownsRow_nil .., HE.out.1⟩
    rw [results_cell_tmp rfl]
    simp [asAddr, Result.andThen, hl]
  obtain ⟨m, hm⟩ : ∃ m, x0.size = m + 1 := ⟨x0.size - 1, by omega⟩
  have q3 : decide ((x0.size : Int) < 2) = false := decide_eq_false (by omega)
  have q4 : ¬ (x0.size : Int) < 2 := by omega
  have HS2 := Lib.hid (fun w => l1Split x3 47 w z3)
  go_wp2_with fail
  refine (HS2.out _).mono ?_
  rintro e w2 ⟨v, ys, rfl, hown, hb2, hpc⟩
  have HPY := Lib.hid hpc
  have ZQ := Lib.hid (ZQ.out.old hb2)
  have NQ := Lib.hid (NQ.out.old hb2)
  have K0 := Lib.hid ((hb2.cell (p := ⟨gw, 0, none⟩) hgw).trans k0)
  have K1 := Lib.hid ((hb2.cell (p := ⟨gw, 1, none⟩) hgw).trans k1)
  have K5 := Lib.hid ((hb2.cell (p := ⟨gw, 5, none⟩) hgw).trans k5)
  have hgw2 : gw < w2.heap.size := Nat.lt_of_lt_of_le hgw hb2.size
  obtain ⟨A2, c2, rfl⟩ := own_strs hown
  clear hb2 HS2 hpc k0 k1 k3 k5 hgw q3 q4 z3 q1 h60
  by_cases hy2 : ys.length = 2
  rotate_left
  · have q2 : ((ys.length : Int) != 2) = true := by simp; omega
    have HN6 := Lib.hid (Bool.eq_false_iff.2 (fun hp => absurd (sp4 hp HPC.out HPY.out) hy2))
    generalize ys.length = yl at *
    have HN := Lib.hid (HNo.out (HN6.out))
    have n0 : w2.cell? ⟨(w.heap.size + 1), 0, none⟩ = some (.int .i64 0) := NQ.out.cell 0
    have n1 : w2.cell? ⟨(w.heap.size + 1), 1, none⟩ = some (.int .i64 0) := NQ.out.cell 1
    have n2 : w2.cell? ⟨(w.heap.size + 1), 2, none⟩ = some (.int .i64 0) := NQ.out.cell 2
    have n3 : w2.cell? ⟨(w.heap.size + 1), 3, none⟩ = some (.int .i64 0) := NQ.out.cell 3
    have n4 : w2.cell? ⟨(w.heap.size + 1), 4, none⟩ = some (.slice none 0 0) := NQ.out.cell 4
    have z0 : w2.cell? ⟨w.heap.size, 0, none⟩ = some (.int .i64 0) := ZQ.out.cell 0
    have zf0 := ZQ.out.frozen 0
    have z1 : w2.cell? ⟨w.heap.size, 1, none⟩ = some (.int .i64 0) := ZQ.out.cell 1
    have zf1 := ZQ.out.frozen 1
    have z2 : w2.cell? ⟨w.heap.size, 2, none⟩ = some (.int .i64 0) := ZQ.out.cell 2
    have zf2 := ZQ.out.frozen 2
    have z3 : w2.cell? ⟨w.heap.size, 3, none⟩ = some (.int .i64 0) := ZQ.out.cell 3
    have zf3 := ZQ.out.frozen 3
    have z4 : w2.cell? ⟨w.heap.size, 4, none⟩ = some (.slice none 0 0) := ZQ.out.cell 4
    have zf4 := ZQ.out.frozen 4
    have HE := Lib.hid (((((ZQ.out.set 0 (.int .i64 0)).set 1 (.int .i64 0)).set 2 (.int .i64 0)).set 3 (.int .i64 0)).set 4 (.slice none 0 0))
    go_wp2_with fail
    have hl := HE.out.load Tryd.underlying28 rfl (by kernel_rfl)
    refine bodyPost_ret (v := .tuple #[.agg #[.int .i64 0, .int .i64 0, .int .i64 0, .int .i64 0, .slice none 0 0], .bool false]) ?_ rfl ⟨.slice none 0 0, by rw [HN.out.1, HN.out.2.1, HN.out.2.2.1, HN.out.2.2.2.1, HN.out.2.2.2.2.2], by rw [HN.out.2.2.2.2.1]; exact World.ownsRow_nil .., HE.out.1⟩
    rw [results_cell_tmp rfl]
    simp [asAddr, Result.andThen, hl]
  obtain ⟨y0, y1, rfl⟩ := two hy2
  obtain ⟨gy, rfl, -, hgy, hcy⟩ := strs_at hown (show 0 < [y0, y1].length by simp)
  have l0 := hcy 0 y0 rfl
  have l1 := hcy 1 y1 rfl
  have k0 := K0.out
  clear hown hcy hy2
  simp only [List.length_cons, List.length_nil, Nat.zero_add, Nat.reduceAdd]
  have FN := Lib.hid (fun (hp : ppB t = true) => And.intro (((sp3 (m := m) hp HPC.out).2.1 hm)) (And.intro (sp3 (m := m) hp HPC.out).2.2 (And.intro (sp5 hp HPC.out HPY.out) (pp_yes hp))))
  have R0 := Lib.hid (fun w d => Calls.quiet_of (l1Read (x0.extract 0 m) (World.drewN w d)))
  have R1 := Lib.hid (fun w => l1Read x1 w)
  have R2 := Lib.hid (fun w => l1Read y0 w)
  have R3 := Lib.hid (fun w => l1Read y1 w)
  have e1 : (x0.size : Int) - 1 = (m : Int) := by omega
  have hmL : (m : Int) ≤ (x0.size : Int) := by omega
  generalize rdB (x0.extract 0 m) = b1 at *
  generalize rdN (x0.extract 0 m) = n1 at *
  generalize rdB x1 = b2 at *
  generalize rdN x1 = n2 at *
  generalize rdB y0 = b3 at *
  generalize rdN y0 = n3 at *
  generalize rdB y1 = b4 at *
  generalize rdN y1 = n4 at *
  clear hm h2
  go_upto_region 8 with fail
  go_quiet (first
    | (go_at_call 44; with_reducible exact R0.out _ _))
  have ZQ := Lib.hid (ZQ.out.drewN ‹Nat›)
  have NQ := Lib.hid (NQ.out.drewN ‹Nat›)
  generalize hw3 : w2.drewN ‹Nat› = w3 at *
  have k1 : w3.cell? ⟨gw, 1, none⟩ = some (.string x1) := by rw [← hw3]; exact K1.out
  have k5 : w3.cell? ⟨gw, 5, none⟩ = some (.string x5) := by rw [← hw3]; exact K5.out
  have k0 : w3.cell? ⟨gw, 0, none⟩ = some (.string x0) := by rw [← hw3]; exact K0.out
  have l0 : w3.cell? ⟨gy, 0, none⟩ = some (.string y0) := by rw [← hw3]; exact l0
  have l1 : w3.cell? ⟨gy, 1, none⟩ = some (.string y1) := by rw [← hw3]; exact l1
  have hgw3 : gw < w3.heap.size := by rw [← hw3]; exact hgw2
  clear hw3 K0 K1 K5
  go_wp2_with fail
  refine (R1.out _).mono ?_
  rintro e wx ⟨rfl, j2, rfl⟩
  have ZQ := Lib.hid (ZQ.out.drewN j2)
  have NQ := Lib.hid (NQ.out.drewN j2)
  generalize hw4 : w3.drewN j2 = w4 at *
  have k5 : w4.cell? ⟨gw, 5, none⟩ = some (.string x5) := by rw [← hw4]; exact k5
  have l0 : w4.cell? ⟨gy, 0, none⟩ = some (.string y0) := by rw [← hw4]; exact l0
  have l1 : w4.cell? ⟨gy, 1, none⟩ = some (.string y1) := by rw [← hw4]; exact l1
  have hgw4 : gw < w4.heap.size := by rw [← hw4]; exact hgw3
  clear hw4
  go_wp2_with fail
  refine (R2.out _).mono ?_
  rintro e wx ⟨rfl, j3, rfl⟩
  have ZQ := Lib.hid (ZQ.out.drewN j3)
  have NQ := Lib.hid (NQ.out.drewN j3)
  generalize hw5 : w4.drewN j3 = w5 at *
  have k5 : w5.cell? ⟨gw, 5, none⟩ = some (.string x5) := by rw [← hw5]; exact k5
  have l0 : w5.cell? ⟨gy, 0, none⟩ = some (.string y0) := by rw [← hw5]; exact l0
  have l1 : w5.cell? ⟨gy, 1, none⟩ = some (.string y1) := by rw [← hw5]; exact l1
  have hgw5 : gw < w5.heap.size := by rw [← hw5]; exact hgw4
  clear hw5
  go_wp2_with fail
  refine (R3.out _).mono ?_
  rintro e wx ⟨rfl, j4, rfl⟩
  have ZQ := Lib.hid (ZQ.out.drewN j4)
  have NQ := Lib.hid (NQ.out.drewN j4)
  generalize hw6 : w5.drewN j4 = w6 at *
  have k5 : w6.cell? ⟨gw, 5, none⟩ = some (.string x5) := by rw [← hw6]; exact k5
  have l0 : w6.cell? ⟨gy, 0, none⟩ = some (.string y0) := by rw [← hw6]; exact l0
  have l1 : w6.cell? ⟨gy, 1, none⟩ = some (.string y1) := by rw [← hw6]; exact l1
  have hgw6 : gw < w6.heap.size := by rw [← hw6]; exact hgw5
  clear hw6
  have HZW := Lib.hid (show w.heap.size < w6.heap.size from ZQ.out.2.2.1)
  have P0 := (newS 3 #[] w6).next 28 #[.int .i64 n1, .int .i64 n2, .int .i64 n3, .int .i64 n4, .slice (some ⟨w6.heap.size, 0, none⟩) 0 0]
  rw [World.size_alloc] at P0
  have O0 := (own_emptyZ w6 3 1).alloc (.cells #[.int .i64 n1, .int .i64 n2, .int .i64 n3, .int .i64 n4, .slice (some ⟨w6.heap.size, 0, none⟩) 0 0] 28)
  have P0 := Lib.hid P0
  have O0 := Lib.hid O0
  have QZ := Lib.hid (fun (W : World) (hb : Below w6.heap.size w6 W) => And.intro (ZQ.out.old hb) (And.intro (NQ.out.old hb) ((hb.cell (p := ⟨gw, 5, none⟩) hgw6).trans k5)))
  have HST := Lib.hid (fun k (h : k < x5.size) => st_next h)
  have HSA := Lib.hid (show st (x5.data.toList.take x5.size) = st x5.data.toList by rw [take_all x5 x5.size (Nat.le_refl _)])
  have HSL := Lib.hid (show (st x5.data.toList).length = x5.size by rw [st_size, len_list])
  clear ZQ NQ l0 l1 R0 R1 R2 R3 HPC HPY
  go_upto_region 13 with fail
  generalize (w6.alloc (.cells #[] 3)).alloc (.cells #[.int .i64 n1, .int .i64 n2, .int .i64 n3, .int .i64 n4, .slice (some ⟨w6.heap.size, 0, none⟩) 0 0] 28) = V0 at *
  go_wp2_with fail
  go_loopw [16] (fun i wr => ∃ (k : Nat) (u : Value), k ≤ x5.size ∧ i = .int .i64 k ∧ AtS 28 #[.int .i64 n1, .int .i64 n2, .int .i64 n3, .int .i64 n4, u] w6 wr (w6.heap.size + 1) ∧ wr.ownsRow w6.heap.size 3 1 u k (cellsI (st (x5.data.toList.take k)))) (fun i _ => x5.size - (intOf i).toNat)
  case atStart => exact ⟨0, _, Nat.zero_le _, rfl, P0.out, O0.out⟩
  case round =>
    obtain ⟨k, u, hk, rfl, hp, ho⟩ := hrel
    clear P0 O0
    obtain ⟨Au, cu, rfl⟩ := own_sliceZ ho
    obtain ⟨zq, nq, kq⟩ := QZ.out _ hp.1
    have PQ := Lib.hid hp
    have OQ := Lib.hid ho
    by_cases hlt : k < x5.size
    · have hlt2 : (k : Int) < (x5.size : Int) := by omega
      have hc0 : (0 : Int) ≤ (x5[k].toNat : Int) := Int.natCast_nonneg _
      have hc1 : (x5[k].toNat : Int) ≤ 255 := by have := x5[k].toNat_lt; omega
      have e0 : IntKind.i64.wrap (x5[k].toNat : Int) = (x5[k].toNat : Int) := IntWalk.i64_in _ (by omega)
      have e2 : IntKind.i64.wrap ((x5[k].toNat : Int) - 48) = (x5[k].toNat : Int) - 48 := IntWalk.i64_in _ (by omega)
      have HX := Lib.hid (HST.out k hlt)
      have HNE := Lib.hid (own_ne ho hp.2.2.2 (by decide))
      have hpl := hp.2.2.1
      have hg5 : gw ≠ w6.heap.size + 1 := by omega
      have CS := Lib.hid (show ∀ WZ : World, Below wr.heap.size wr WZ → World.cell? WZ ⟨w6.heap.size + 1, 4, none⟩ = some (.slice Au k cu) ∧ World.cell? WZ ⟨gw, 5, none⟩ = some (.string x5) from fun WZ hz => ⟨(PQ.out.old hz).cell 4, (hz.cell (p := ⟨gw, 5, none⟩) (World.block_lt_of_cell? _ _ kq)).trans kq⟩)
      clear zq nq hp ho
      generalize st (x5.data.toList.take k) = L at *
      go_upto_region 16 with fail
      clear kq
      have HS0 := Lib.hid (CS.out _ (Below.refl wr.heap.size wr).drew)
      refine wp_region_tail (S := fun w' => World.cell? w' ⟨w6.heap.size + 1, 4, none⟩ = some (.slice Au k cu) ∧ World.cell? w' ⟨gw, 5, none⟩ = some (.string x5)) 12 (by kernel_rfl) HS0.out (fun hHeld => ?_)
      try simp only [Act.put]
      refine wpAnyE_take (i := 0) (v := ?vqs0) rfl (by decide +kernel) (fun _ _ _ h => h) (Or.inl ⟨by rfl, ?hqs0⟩) (by assumption) ?rqs0
      case hqs0 =>
        intro wS hSw
        obtain ⟨h0, h1⟩ := hSw
        go_simp
        try with_reducible rfl
      try simp only [Act.put]
      refine wpAnyE_take (i := 1) (v := ?vqs1) rfl (by decide +kernel) (fun _ _ _ h => h) (Or.inl ⟨by rfl, ?hqs1⟩) (by assumption) ?rqs1
      case hqs1 =>
        intro wS hSw
        obtain ⟨h0, h1⟩ := hSw
        go_simp
        try with_reducible rfl
      try simp only [Act.put]
      refine wpAnyE_take (i := 2) (v := ?vqs2) rfl (by decide +kernel) (fun _ _ _ h => h) (Or.inl ⟨by rfl, ?hqs2⟩) (by assumption) ?rqs2
      case hqs2 =>
        intro wS hSw
        obtain ⟨h0, h1⟩ := hSw
        go_simp
        try with_reducible rfl
      try simp only [Act.put]
      refine wpAnyE_take (i := 3) (v := ?vqs3) rfl (by decide +kernel) (fun _ _ _ h => h) (Or.inl ⟨by rfl, ?hqs3⟩) (by assumption) ?rqs3
      case hqs3 =>
        intro wS hSw
        obtain ⟨h0, h1⟩ := hSw
        go_simp
        try with_reducible rfl
      try simp only [Act.put]
      refine wpAnyE_take (i := 4) (v := ?vqs4) rfl (by decide +kernel) (fun _ _ _ h => h) (Or.inl ⟨by rfl, ?hqs4⟩) (by assumption) ?rqs4
      case hqs4 =>
        intro wS hSw
        obtain ⟨h0, h1⟩ := hSw
        go_simp
        try with_reducible rfl
      try simp only [Act.put]
      refine wpAnyE_take (i := 5) (v := ?vqs5) rfl (by decide +kernel) (fun _ _ _ h => h) (Or.inl ⟨by rfl, ?hqs5⟩) (by assumption) ?rqs5
      case hqs5 =>
        intro wS hSw
        obtain ⟨h0, h1⟩ := hSw
        go_simp
        try with_reducible rfl
      try simp only [Act.put]
      refine wpAnyE_take (i := 6) (v := ?vqs6) rfl (by decide +kernel) (fun _ _ _ h => h) (Or.inl ⟨by rfl, ?hqs6⟩) (by assumption) ?rqs6
      case hqs6 =>
        intro wS hSw
        obtain ⟨h0, h1⟩ := hSw
        go_simp
        try with_reducible rfl
      try simp only [Act.put]
      refine wpAnyE_take (i := 7) (v := ?vqs7) rfl (by decide +kernel) (fun _ _ _ h => h) (Or.inl ⟨by rfl, ?hqs7⟩) (by assumption) ?rqs7
      case hqs7 =>
        intro wS hSw
        obtain ⟨h0, h1⟩ := hSw
        go_simp
        try with_reducible rfl
      try simp only [Act.put]
      refine wpAnyE_take (i := 8) (v := ?vqs8) rfl (by decide +kernel) (fun _ _ _ h => h) (Or.inl ⟨by rfl, ?hqs8⟩) (by assumption) ?rqs8
      case hqs8 =>
        intro wS hSw
        obtain ⟨h0, h1⟩ := hSw
        go_simp
        try with_reducible rfl
      try simp only [Act.put]
      refine wpAnyE_ready (rs := [9]) (by kernel_rfl) (by simp) ?_
      refine AllReadyE.cons (i := 9) rfl (by decide) (fun K hK => ?_) AllReadyE.nil
      go_simp
      refine hK.out _ _ (CS.out _ ((Below.refl wr.heap.size wr).drew.alloc (Nat.le_refl _) _)) (fun hHeld => ?_)
      clear hK K
      try simp only [Act.put]
      refine wpAnyE_ready (rs := [10]) (by kernel_rfl) (by simp) ?_
      refine AllReadyE.cons (i := 10) rfl (by decide) (fun K hK => ?_) AllReadyE.nil
      refine step_append_sz rfl (.tmp 94) (.tmp 102) 26 rfl w6.heap.size 3 iI (.int .i64 0) 1 8 Tryd.underlying26 hiI hzI0 hzI1 hzI2 rfl (by decide) (.slice Au k cu) k (cellsI L) rfl (own_.own_below OQ.out ((Below.refl wr.heap.size wr).drew.alloc (Nat.le_refl _) (.cells #[.int .i64 ((x5[k].toNat : Int) - 48)] 3))) _ 1 1 [.int .i64 ((x5[k].toNat : Int) - 48)] rfl rfl (cell_one_new wr.drew _ _) (own_.one_cell _ rfl) (by unfold maxLen; omega) (by omega) (by have := PQ.out.1.size; show w6.heap.size ≤ (wr.alloc _).heap.size; rw [World.size_alloc]; omega) ?_
      intro v4 w4' o4 g4 r4
      obtain ⟨A4, c4, rfl⟩ := own_sliceZ o4
      have A1 : Below wr.heap.size wr (wr.drew.alloc (.cells #[.int .i64 ((x5[k].toNat : Int) - 48)] 3)) := (Below.refl wr.heap.size wr).drew.alloc (Nat.le_refl _) _
      have NEW := Lib.hid (show World.cell? w4' ⟨w6.heap.size + 1, 4, none⟩ = some (.slice Au k cu) ∧ World.cell? w4' ⟨gw, 5, none⟩ = some (.string x5) from ⟨g4.cell (CS.out _ A1).1 (fun e => HNE.out e.symm), g4.cell (CS.out _ A1).2 (fun e => by have := own_.row_ge OQ.out gw e.symm; omega)⟩)
      have hA5 : (wr.drew.alloc (.cells #[.int .i64 ((x5[k].toNat : Int) - 48)] 3)).heap[w6.heap.size + 1]? = some (.cells #[.int .i64 n1, .int .i64 n2, .int .i64 n3, .int .i64 n4, .slice Au k cu] 28 (0, 0)) := (PQ.out.old A1).2.2.2
      have P4 := Lib.hid (show AtS 28 #[.int .i64 n1, .int .i64 n2, .int .i64 n3, .int .i64 n4, .slice Au k cu] w6 w4' (w6.heap.size + 1) from ⟨(PQ.out.1.trans (A1.mono PQ.out.1.size)).grown g4 (Nat.le_trans PQ.out.1.size A1.size) (own_.row_ge OQ.out), PQ.out.2.1, Nat.lt_of_lt_of_le PQ.out.2.2.1 (Nat.le_trans A1.size g4.size), (g4.block _ (Nat.lt_of_lt_of_le PQ.out.2.2.1 A1.size) (fun e => HNE.out e.symm)).trans hA5⟩)
      have s4 := NEW.out.1
      have f4 := P4.out.frozen 4
      have P5 := Lib.hid (show AtS 28 #[.int .i64 n1, .int .i64 n2, .int .i64 n3, .int .i64 n4, .slice A4 (k + 1) c4] w6 (w4'.setCell ⟨w6.heap.size + 1, 4, none⟩ (.slice A4 (k + 1) c4)) (w6.heap.size + 1) from P4.out.set 4 (.slice A4 (k + 1) c4))
      have O5 := Lib.hid (own_kept_at o4 (grown_set (grown_refl w4' (some (w6.heap.size + 1))) 4 (.slice A4 (k + 1) c4)) (fun g hg e => own_ne o4 P4.out.2.2.2 (by decide) (hg.trans e.symm)))
      clear A1 o4 g4 r4 hA5 P4
      refine hK.out _ _ (NEW.out) (fun hHeld => ?_)
      clear hK K
      try simp only [Act.put]
      refine wpAnyE_take (i := 11) (v := ?vqs11) rfl (by decide +kernel) (fun _ _ _ h => h) (Or.inl ⟨by rfl, ?hqs11⟩) (by assumption) ?rqs11
      case hqs11 =>
        intro wS hSw
        obtain ⟨h0, h1⟩ := hSw
        go_simp
        try with_reducible rfl
      try simp only [Act.put]
      refine wpAnyE_ready (rs := [12]) (by kernel_rfl) (by simp) ?_
      refine AllReadyE.last (i := 12) rfl rfl (fun K hK => ?_)
      go_simp
      refine hK.out _ _ ?_
      clear hK K
      try simp only [Act.put]
      refine wpAnyE_done (by kernel_rfl) ?_ _
      try simp only [List.getElem_toArray, List.getElem_cons_succ, List.getElem_cons_zero, List.setIfInBounds_toArray, List.set_cons_succ, List.set_cons_zero]
      clear s4 f4 NEW CS HS0 hHeld
      have O6 := Lib.hid (show (w4'.setCell ⟨w6.heap.size + 1, 4, none⟩ (.slice A4 (k + 1) c4)).ownsRow w6.heap.size 3 1 (.slice A4 (k + 1) c4) (k + 1) (cellsI (st (x5.data.toList.take (k + 1)))) by rw [HX.out]; unfold cellsI; rw [List.map_append]; exact O5.out)
      clear O5
      generalize w4'.setCell ⟨w6.heap.size + 1, 4, none⟩ (.slice A4 (k + 1) c4) = w5' at *
      go_wp2_with fail
      go_roundw
      case rel => exact ⟨k + 1, _, by omega, by go_num, P5.out, O6.out⟩
      case measure => simp [intOf]; omega
    · obtain rfl : k = x5.size := by omega
      rw [HSA.out] at ho
      have OQ := Lib.hid ho
      have ZQ := Lib.hid zq
      have NQ := Lib.hid nq
      have RQ := Lib.hid (intc.rd_of_own ho HSL.out)
      have hzV := HZW.out
      clear zq nq hp ho HST HSA QZ
      cases b1
      · have HN6 := Lib.hid (Bool.eq_false_iff.2 (fun hp => by have h9 := (FN.out hp).1.1; cases h9))
        have HN := Lib.hid (HNo.out (HN6.out))
        have n0 : wr.cell? ⟨(w.heap.size + 1), 0, none⟩ = some (.int .i64 0) := NQ.out.cell 0
        have n1 : wr.cell? ⟨(w.heap.size + 1), 1, none⟩ = some (.int .i64 0) := NQ.out.cell 1
        have n2 : wr.cell? ⟨(w.heap.size + 1), 2, none⟩ = some (.int .i64 0) := NQ.out.cell 2
        have n3 : wr.cell? ⟨(w.heap.size + 1), 3, none⟩ = some (.int .i64 0) := NQ.out.cell 3
        have n4 : wr.cell? ⟨(w.heap.size + 1), 4, none⟩ = some (.slice none 0 0) := NQ.out.cell 4
        have z0 : wr.cell? ⟨w.heap.size, 0, none⟩ = some (.int .i64 0) := ZQ.out.cell 0
        have zf0 := ZQ.out.frozen 0
        have z1 : wr.cell? ⟨w.heap.size, 1, none⟩ = some (.int .i64 0) := ZQ.out.cell 1
        have zf1 := ZQ.out.frozen 1
        have z2 : wr.cell? ⟨w.heap.size, 2, none⟩ = some (.int .i64 0) := ZQ.out.cell 2
        have zf2 := ZQ.out.frozen 2
        have z3 : wr.cell? ⟨w.heap.size, 3, none⟩ = some (.int .i64 0) := ZQ.out.cell 3
        have zf3 := ZQ.out.frozen 3
        have z4 : wr.cell? ⟨w.heap.size, 4, none⟩ = some (.slice none 0 0) := ZQ.out.cell 4
        have zf4 := ZQ.out.frozen 4
        have HE := Lib.hid (((((ZQ.out.set 0 (.int .i64 0)).set 1 (.int .i64 0)).set 2 (.int .i64 0)).set 3 (.int .i64 0)).set 4 (.slice none 0 0))
        go_wp2_with fail
        have hl := HE.out.load Tryd.underlying28 rfl (by kernel_rfl)
        refine bodyPost_ret (v := .tuple #[.agg #[.int .i64 0, .int .i64 0, .int .i64 0, .int .i64 0, .slice none 0 0], .bool false]) ?_ rfl ⟨.slice none 0 0, by rw [HN.out.1, HN.out.2.1, HN.out.2.2.1, HN.out.2.2.2.1, HN.out.2.2.2.2.2], by rw [HN.out.2.2.2.2.1]; exact World.ownsRow_nil .., HE.out.1⟩
        rw [results_cell_tmp rfl]
        simp [asAddr, Result.andThen, hl]
      cases b2
      · have HN6 := Lib.hid (Bool.eq_false_iff.2 (fun hp => by have h9 := (FN.out hp).2.1.1.1; cases h9))
        have HN := Lib.hid (HNo.out (HN6.out))
        have n0 : wr.cell? ⟨(w.heap.size + 1), 0, none⟩ = some (.int .i64 0) := NQ.out.cell 0
        have n1 : wr.cell? ⟨(w.heap.size + 1), 1, none⟩ = some (.int .i64 0) := NQ.out.cell 1
        have n2 : wr.cell? ⟨(w.heap.size + 1), 2, none⟩ = some (.int .i64 0) := NQ.out.cell 2
        have n3 : wr.cell? ⟨(w.heap.size + 1), 3, none⟩ = some (.int .i64 0) := NQ.out.cell 3
        have n4 : wr.cell? ⟨(w.heap.size + 1), 4, none⟩ = some (.slice none 0 0) := NQ.out.cell 4
        have z0 : wr.cell? ⟨w.heap.size, 0, none⟩ = some (.int .i64 0) := ZQ.out.cell 0
        have zf0 := ZQ.out.frozen 0
        have z1 : wr.cell? ⟨w.heap.size, 1, none⟩ = some (.int .i64 0) := ZQ.out.cell 1
        have zf1 := ZQ.out.frozen 1
        have z2 : wr.cell? ⟨w.heap.size, 2, none⟩ = some (.int .i64 0) := ZQ.out.cell 2
        have zf2 := ZQ.out.frozen 2
        have z3 : wr.cell? ⟨w.heap.size, 3, none⟩ = some (.int .i64 0) := ZQ.out.cell 3
        have zf3 := ZQ.out.frozen 3
        have z4 : wr.cell? ⟨w.heap.size, 4, none⟩ = some (.slice none 0 0) := ZQ.out.cell 4
        have zf4 := ZQ.out.frozen 4
        have HE := Lib.hid (((((ZQ.out.set 0 (.int .i64 0)).set 1 (.int .i64 0)).set 2 (.int .i64 0)).set 3 (.int .i64 0)).set 4 (.slice none 0 0))
        go_wp2_with fail
        have hl := HE.out.load Tryd.underlying28 rfl (by kernel_rfl)
        refine bodyPost_ret (v := .tuple #[.agg #[.int .i64 0, .int .i64 0, .int .i64 0, .int .i64 0, .slice none 0 0], .bool false]) ?_ rfl ⟨.slice none 0 0, by rw [HN.out.1, HN.out.2.1, HN.out.2.2.1, HN.out.2.2.2.1, HN.out.2.2.2.2.2], by rw [HN.out.2.2.2.2.1]; exact World.ownsRow_nil .., HE.out.1⟩
        rw [results_cell_tmp rfl]
        simp [asAddr, Result.andThen, hl]
      cases b3
      · have HN6 := Lib.hid (Bool.eq_false_iff.2 (fun hp => by have h9 := (FN.out hp).2.2.1.1.1; cases h9))
        have HN := Lib.hid (HNo.out (HN6.out))
        have n0 : wr.cell? ⟨(w.heap.size + 1), 0, none⟩ = some (.int .i64 0) := NQ.out.cell 0
        have n1 : wr.cell? ⟨(w.heap.size + 1), 1, none⟩ = some (.int .i64 0) := NQ.out.cell 1
        have n2 : wr.cell? ⟨(w.heap.size + 1), 2, none⟩ = some (.int .i64 0) := NQ.out.cell 2
        have n3 : wr.cell? ⟨(w.heap.size + 1), 3, none⟩ = some (.int .i64 0) := NQ.out.cell 3
        have n4 : wr.cell? ⟨(w.heap.size + 1), 4, none⟩ = some (.slice none 0 0) := NQ.out.cell 4
        have z0 : wr.cell? ⟨w.heap.size, 0, none⟩ = some (.int .i64 0) := ZQ.out.cell 0
        have zf0 := ZQ.out.frozen 0
        have z1 : wr.cell? ⟨w.heap.size, 1, none⟩ = some (.int .i64 0) := ZQ.out.cell 1
        have zf1 := ZQ.out.frozen 1
        have z2 : wr.cell? ⟨w.heap.size, 2, none⟩ = some (.int .i64 0) := ZQ.out.cell 2
        have zf2 := ZQ.out.frozen 2
        have z3 : wr.cell? ⟨w.heap.size, 3, none⟩ = some (.int .i64 0) := ZQ.out.cell 3
        have zf3 := ZQ.out.frozen 3
        have z4 : wr.cell? ⟨w.heap.size, 4, none⟩ = some (.slice none 0 0) := ZQ.out.cell 4
        have zf4 := ZQ.out.frozen 4
        have HE := Lib.hid (((((ZQ.out.set 0 (.int .i64 0)).set 1 (.int .i64 0)).set 2 (.int .i64 0)).set 3 (.int .i64 0)).set 4 (.slice none 0 0))
        go_wp2_with fail
        have hl := HE.out.load Tryd.underlying28 rfl (by kernel_rfl)
        refine bodyPost_ret (v := .tuple #[.agg #[.int .i64 0, .int .i64 0, .int .i64 0, .int .i64 0, .slice none 0 0], .bool false]) ?_ rfl ⟨.slice none 0 0, by rw [HN.out.1, HN.out.2.1, HN.out.2.2.1, HN.out.2.2.2.1, HN.out.2.2.2.2.2], by rw [HN.out.2.2.2.2.1]; exact World.ownsRow_nil .., HE.out.1⟩
        rw [results_cell_tmp rfl]
        simp [asAddr, Result.andThen, hl]
      cases b4
      · have HN6 := Lib.hid (Bool.eq_false_iff.2 (fun hp => by have h9 := (FN.out hp).2.2.1.2.1; cases h9))
        have HN := Lib.hid (HNo.out (HN6.out))
        have n0 : wr.cell? ⟨(w.heap.size + 1), 0, none⟩ = some (.int .i64 0) := NQ.out.cell 0
        have n1 : wr.cell? ⟨(w.heap.size + 1), 1, none⟩ = some (.int .i64 0) := NQ.out.cell 1
        have n2 : wr.cell? ⟨(w.heap.size + 1), 2, none⟩ = some (.int .i64 0) := NQ.out.cell 2
        have n3 : wr.cell? ⟨(w.heap.size + 1), 3, none⟩ = some (.int .i64 0) := NQ.out.cell 3
        have n4 : wr.cell? ⟨(w.heap.size + 1), 4, none⟩ = some (.slice none 0 0) := NQ.out.cell 4
        have z0 : wr.cell? ⟨w.heap.size, 0, none⟩ = some (.int .i64 0) := ZQ.out.cell 0
        have zf0 := ZQ.out.frozen 0
        have z1 : wr.cell? ⟨w.heap.size, 1, none⟩ = some (.int .i64 0) := ZQ.out.cell 1
        have zf1 := ZQ.out.frozen 1
        have z2 : wr.cell? ⟨w.heap.size, 2, none⟩ = some (.int .i64 0) := ZQ.out.cell 2
        have zf2 := ZQ.out.frozen 2
        have z3 : wr.cell? ⟨w.heap.size, 3, none⟩ = some (.int .i64 0) := ZQ.out.cell 3
        have zf3 := ZQ.out.frozen 3
        have z4 : wr.cell? ⟨w.heap.size, 4, none⟩ = some (.slice none 0 0) := ZQ.out.cell 4
        have zf4 := ZQ.out.frozen 4
        have HE := Lib.hid (((((ZQ.out.set 0 (.int .i64 0)).set 1 (.int .i64 0)).set 2 (.int .i64 0)).set 3 (.int .i64 0)).set 4 (.slice none 0 0))
        go_wp2_with fail
        have hl := HE.out.load Tryd.underlying28 rfl (by kernel_rfl)
        refine bodyPost_ret (v := .tuple #[.agg #[.int .i64 0, .int .i64 0, .int .i64 0, .int .i64 0, .slice none 0 0], .bool false]) ?_ rfl ⟨.slice none 0 0, by rw [HN.out.1, HN.out.2.1, HN.out.2.2.1, HN.out.2.2.2.1, HN.out.2.2.2.2.2], by rw [HN.out.2.2.2.2.1]; exact World.ownsRow_nil .., HE.out.1⟩
        rw [results_cell_tmp rfl]
        simp [asAddr, Result.andThen, hl]
      have G8 := Lib.hid (fun (W : World) (hb : Below wr.heap.size wr W) => pltw.plot13 n1 n2 n3 n4 (st x5.data.toList) Au x5.size cu W (by omega) (RQ.out.next hb))
      have T8 := fun h (W : World) (hb : Below wr.heap.size wr W) => text13 n1 n2 n3 n4 (st x5.data.toList) Au x5.size cu W h (RQ.out.next hb)
      have HYY := Lib.hid (fun h1 h2 => HYe.out n1 n2 n3 n4 (st x5.data.toList) x5.size HSL.out h1 h2)
      have FNN := Lib.hid (fun (hp : ppB t = true) => show plB n1 n2 n3 n4 (st x5.data.toList) x5.size = true ∧ ptxT n1 n2 n3 n4 (st x5.data.toList) x5.size = t from by
        obtain ⟨⟨-, g1⟩, ⟨⟨-, g2⟩, g5⟩, ⟨⟨-, g3⟩, -, g4⟩, g6, g7⟩ := FN.out hp
        rw [← g1, ← g2, ← g3, ← g4, ← g5, HSL.out] at g6 g7
        exact ⟨g6, g7⟩)
      clear FN HYe
      have p0 : wr.cell? ⟨(w6.heap.size + 1), 0, none⟩ = some (.int .i64 n1) := PQ.out.cell 0
      have p1 : wr.cell? ⟨(w6.heap.size + 1), 1, none⟩ = some (.int .i64 n2) := PQ.out.cell 1
      have p2 : wr.cell? ⟨(w6.heap.size + 1), 2, none⟩ = some (.int .i64 n3) := PQ.out.cell 2
      have p3 : wr.cell? ⟨(w6.heap.size + 1), 3, none⟩ = some (.int .i64 n4) := PQ.out.cell 3
      have p4 : wr.cell? ⟨(w6.heap.size + 1), 4, none⟩ = some (.slice Au x5.size cu) := PQ.out.cell 4
      cases hv : plB n1 n2 n3 n4 (st x5.data.toList) x5.size
      · have HN6 := Lib.hid (Bool.eq_false_iff.2 (fun hp => by have h9 := (FNN.out hp).1; rw [hv] at h9; cases h9))
        have G := Lib.hid (hv ▸ G8.out)
        clear hv HYY FNN T8 G8
        go_wp2_with fail
        refine (G.out _ (Below.refl _ _)).mono ?_
        rintro e wf ⟨rfl, hbf⟩
        have ZQ := Lib.hid (ZQ.out.old hbf)
        have NQ := Lib.hid (NQ.out.old hbf)
        clear hbf p0 p1 p2 p3 p4
        have HN := Lib.hid (HNo.out (HN6.out))
        have n0 : wf.cell? ⟨(w.heap.size + 1), 0, none⟩ = some (.int .i64 0) := NQ.out.cell 0
        have n1 : wf.cell? ⟨(w.heap.size + 1), 1, none⟩ = some (.int .i64 0) := NQ.out.cell 1
        have n2 : wf.cell? ⟨(w.heap.size + 1), 2, none⟩ = some (.int .i64 0) := NQ.out.cell 2
        have n3 : wf.cell? ⟨(w.heap.size + 1), 3, none⟩ = some (.int .i64 0) := NQ.out.cell 3
        have n4 : wf.cell? ⟨(w.heap.size + 1), 4, none⟩ = some (.slice none 0 0) := NQ.out.cell 4
        have z0 : wf.cell? ⟨w.heap.size, 0, none⟩ = some (.int .i64 0) := ZQ.out.cell 0
        have zf0 := ZQ.out.frozen 0
        have z1 : wf.cell? ⟨w.heap.size, 1, none⟩ = some (.int .i64 0) := ZQ.out.cell 1
        have zf1 := ZQ.out.frozen 1
        have z2 : wf.cell? ⟨w.heap.size, 2, none⟩ = some (.int .i64 0) := ZQ.out.cell 2
        have zf2 := ZQ.out.frozen 2
        have z3 : wf.cell? ⟨w.heap.size, 3, none⟩ = some (.int .i64 0) := ZQ.out.cell 3
        have zf3 := ZQ.out.frozen 3
        have z4 : wf.cell? ⟨w.heap.size, 4, none⟩ = some (.slice none 0 0) := ZQ.out.cell 4
        have zf4 := ZQ.out.frozen 4
        have HE := Lib.hid (((((ZQ.out.set 0 (.int .i64 0)).set 1 (.int .i64 0)).set 2 (.int .i64 0)).set 3 (.int .i64 0)).set 4 (.slice none 0 0))
        go_wp2_with fail
        have hl := HE.out.load Tryd.underlying28 rfl (by kernel_rfl)
        refine bodyPost_ret (v := .tuple #[.agg #[.int .i64 0, .int .i64 0, .int .i64 0, .int .i64 0, .slice none 0 0], .bool false]) ?_ rfl ⟨.slice none 0 0, by rw [HN.out.1, HN.out.2.1, HN.out.2.2.1, HN.out.2.2.2.1, HN.out.2.2.2.2.2], by rw [HN.out.2.2.2.2.1]; exact World.ownsRow_nil .., HE.out.1⟩
        rw [results_cell_tmp rfl]
        simp [asAddr, Result.andThen, hl]
      have G := Lib.hid (hv ▸ G8.out)
      have T := Lib.hid (T8 hv)
      have HYY2 := Lib.hid (fun h => HYY.out hv h)
      have HNN := Lib.hid (fun (h : ((ptxT n1 n2 n3 n4 (st x5.data.toList) x5.size).toList == t.toList) = false) => show ppB t = false from Bool.eq_false_iff.2 (fun hp => by rw [(FNN.out hp).2] at h; simp at h))
      clear hv HYY FNN T8 G8
      generalize ptxT n1 n2 n3 n4 (st x5.data.toList) x5.size = tt at *
      go_wp2_with fail
      refine (G.out _ (Below.refl _ _)).mono ?_
      rintro e wf ⟨rfl, hbf⟩
      have ZQ := Lib.hid (ZQ.out.old hbf)
      have NQ := Lib.hid (NQ.out.old hbf)
      have PQ := Lib.hid (PQ.out.old hbf)
      have OQ := Lib.hid (own_.own_below OQ.out hbf)
      have HBF := Lib.hid hbf
      clear hbf p0 p1 p2 p3 p4 G
      have p0 : wf.cell? ⟨(w6.heap.size + 1), 0, none⟩ = some (.int .i64 n1) := PQ.out.cell 0
      have p1 : wf.cell? ⟨(w6.heap.size + 1), 1, none⟩ = some (.int .i64 n2) := PQ.out.cell 1
      have p2 : wf.cell? ⟨(w6.heap.size + 1), 2, none⟩ = some (.int .i64 n3) := PQ.out.cell 2
      have p3 : wf.cell? ⟨(w6.heap.size + 1), 3, none⟩ = some (.int .i64 n4) := PQ.out.cell 3
      have p4 : wf.cell? ⟨(w6.heap.size + 1), 4, none⟩ = some (.slice Au x5.size cu) := PQ.out.cell 4
      go_wp2_with fail
      refine (T.out _ HBF.out).mono ?_
      rintro e wg ⟨rfl, hbf⟩
      have ZQ := Lib.hid (ZQ.out.old hbf)
      have NQ := Lib.hid (NQ.out.old hbf)
      have PQ := Lib.hid (PQ.out.old hbf)
      have OQ := Lib.hid (own_.own_below OQ.out hbf)
      clear hbf p0 p1 p2 p3 p4 T HBF
      cases hc : (tt.toList == t.toList)
      · have HN6 := Lib.hid (HNN.out hc)
        have HN := Lib.hid (HNo.out (HN6.out))
        have n0 : wg.cell? ⟨(w.heap.size + 1), 0, none⟩ = some (.int .i64 0) := NQ.out.cell 0
        have n1 : wg.cell? ⟨(w.heap.size + 1), 1, none⟩ = some (.int .i64 0) := NQ.out.cell 1
        have n2 : wg.cell? ⟨(w.heap.size + 1), 2, none⟩ = some (.int .i64 0) := NQ.out.cell 2
        have n3 : wg.cell? ⟨(w.heap.size + 1), 3, none⟩ = some (.int .i64 0) := NQ.out.cell 3
        have n4 : wg.cell? ⟨(w.heap.size + 1), 4, none⟩ = some (.slice none 0 0) := NQ.out.cell 4
        have z0 : wg.cell? ⟨w.heap.size, 0, none⟩ = some (.int .i64 0) := ZQ.out.cell 0
        have zf0 := ZQ.out.frozen 0
        have z1 : wg.cell? ⟨w.heap.size, 1, none⟩ = some (.int .i64 0) := ZQ.out.cell 1
        have zf1 := ZQ.out.frozen 1
        have z2 : wg.cell? ⟨w.heap.size, 2, none⟩ = some (.int .i64 0) := ZQ.out.cell 2
        have zf2 := ZQ.out.frozen 2
        have z3 : wg.cell? ⟨w.heap.size, 3, none⟩ = some (.int .i64 0) := ZQ.out.cell 3
        have zf3 := ZQ.out.frozen 3
        have z4 : wg.cell? ⟨w.heap.size, 4, none⟩ = some (.slice none 0 0) := ZQ.out.cell 4
        have zf4 := ZQ.out.frozen 4
        have HE := Lib.hid (((((ZQ.out.set 0 (.int .i64 0)).set 1 (.int .i64 0)).set 2 (.int .i64 0)).set 3 (.int .i64 0)).set 4 (.slice none 0 0))
        go_wp2_with fail
        have hl := HE.out.load Tryd.underlying28 rfl (by kernel_rfl)
        refine bodyPost_ret (v := .tuple #[.agg #[.int .i64 0, .int .i64 0, .int .i64 0, .int .i64 0, .slice none 0 0], .bool false]) ?_ rfl ⟨.slice none 0 0, by rw [HN.out.1, HN.out.2.1, HN.out.2.2.1, HN.out.2.2.2.1, HN.out.2.2.2.2.2], by rw [HN.out.2.2.2.2.1]; exact World.ownsRow_nil .., HE.out.1⟩
        rw [results_cell_tmp rfl]
        simp [asAddr, Result.andThen, hl]
      · have HY := Lib.hid (HYY2.out hc)
        have p0 : wg.cell? ⟨(w6.heap.size + 1), 0, none⟩ = some (.int .i64 n1) := PQ.out.cell 0
        have p1 : wg.cell? ⟨(w6.heap.size + 1), 1, none⟩ = some (.int .i64 n2) := PQ.out.cell 1
        have p2 : wg.cell? ⟨(w6.heap.size + 1), 2, none⟩ = some (.int .i64 n3) := PQ.out.cell 2
        have p3 : wg.cell? ⟨(w6.heap.size + 1), 3, none⟩ = some (.int .i64 n4) := PQ.out.cell 3
        have p4 : wg.cell? ⟨(w6.heap.size + 1), 4, none⟩ = some (.slice Au x5.size cu) := PQ.out.cell 4
        have z0 : wg.cell? ⟨w.heap.size, 0, none⟩ = some (.int .i64 0) := ZQ.out.cell 0
        have zf0 := ZQ.out.frozen 0
        have z1 : wg.cell? ⟨w.heap.size, 1, none⟩ = some (.int .i64 0) := ZQ.out.cell 1
        have zf1 := ZQ.out.frozen 1
        have z2 : wg.cell? ⟨w.heap.size, 2, none⟩ = some (.int .i64 0) := ZQ.out.cell 2
        have zf2 := ZQ.out.frozen 2
        have z3 : wg.cell? ⟨w.heap.size, 3, none⟩ = some (.int .i64 0) := ZQ.out.cell 3
        have zf3 := ZQ.out.frozen 3
        have z4 : wg.cell? ⟨w.heap.size, 4, none⟩ = some (.slice none 0 0) := ZQ.out.cell 4
        have zf4 := ZQ.out.frozen 4
        have HO := Lib.hid (own_setbox (own_setbox (own_setbox (own_setbox (own_setbox OQ.out hzV 0 (.int .i64 n1)) hzV 1 (.int .i64 n2)) hzV 2 (.int .i64 n3)) hzV 3 (.int .i64 n4)) hzV 4 (.slice Au x5.size cu))
        have HE := Lib.hid (((((ZQ.out.set 0 (.int .i64 n1)).set 1 (.int .i64 n2)).set 2 (.int .i64 n3)).set 3 (.int .i64 n4)).set 4 (.slice Au x5.size cu))
        go_wp2_with fail
        have hl := HE.out.load Tryd.underlying28 rfl (by kernel_rfl)
        refine bodyPost_ret (v := .tuple #[.agg #[.int .i64 n1, .int .i64 n2, .int .i64 n3, .int .i64 n4, .slice Au x5.size cu], .bool true]) ?_ rfl ⟨.slice Au x5.size cu, by rw [HY.out.1, HY.out.2.1, HY.out.2.2.1, HY.out.2.2.2.1, HY.out.2.2.2.2.2], by rw [HY.out.2.2.2.2.1, HSL.out]; exact own_.own_base HO.out (Nat.le_of_lt HZW.out), HE.out.1⟩
        rw [results_cell_tmp rfl]
        simp [asAddr, Result.andThen, hl]
end Go.Proofs.YtdjcbfeilkepmaaDoor.ptxs

/- spec's draws of plots and of their texts. -/
namespace Go.Proofs.YtdjcbfeilkepmaaDoor.drawu13
open Go.RowKit Go.Proofs.YtdjcbfeilkepmaaDoor.cur Go.Proofs.YtdjcbfeilkepmaaDoor.atc Go.Proofs.YtdjcbfeilkepmaaDoor.ats Go.Proofs.YtdjcbfeilkepmaaDoor.ints Go.Proofs.YtdjcbfeilkepmaaDoor.lst Go.Proofs.YtdjcbfeilkepmaaDoor.code_ Go.Proofs.YtdjcbfeilkepmaaDoor.rws Go.Proofs.YtdjcbfeilkepmaaDoor.tailh Go.Proofs.YtdjcbfeilkepmaaDoor.draws13 Go.Proofs.YtdjcbfeilkepmaaDoor.intc

theorem own_setbox {W : World} {B e s n b : Nat} {v : Value} {xs : List Value} (h : W.ownsRow B e s v n xs) (hlt : b < B) (i : Nat) (u : Value) : (W.setCell ⟨b, i, none⟩ u).ownsRow B e s v n xs :=
  own_kept_at h (grown_set (grown_refl _ (some b)) i u) (fun g e e2 => by injection e2 with e2; have := own_.row_ge h g e; omega)
theorem own_len1 {w : World} {B e n : Nat} {v : Value} {xs : List Int} (h : w.ownsRow B e 1 v n (cellsI xs)) : xs.length = n := by have := h.1; unfold cellsI at this; simpa using this
def PlotQ (p m : Nat) (w : World) (e : Ending) (w' : World) : Prop := ∃ (s a x y : Int) (A : Option Addr) (k c : Nat) (xs : List Int), e = .returned (.agg #[.int .i64 s, .int .i64 a, .int .i64 x, .int .i64 y, .slice A k c]) ∧ w'.ownsRow w.heap.size 3 1 (.slice A k c) k (cellsI xs) ∧ k ≤ 10 ∧ Cur w' p m ∧ w.grownBy w' (some p)

set_option maxRecDepth 100000 in
set_option maxHeartbeats 16000000 in
theorem plot (p m : Nat) (w : World) (h : Cur w p m) (hm : m ≤ 100000) :
    Calls Tryd.prog 40 #[.pointer (some ⟨p, 0, none⟩)] w (PlotQ p (m + 200) w) := by
  have hp := h.lt
  obtain ⟨iI, hiI, hzI0, hzI1, hzI2⟩ := info_parts infoI
  have C0 := Lib.hid (h.keep ((Below.refl (p + 1) w).alloc (by omega) (.cells #[.int .i64 0, .int .i64 0, .int .i64 0, .int .i64 0, .slice none 0 0] 28)))
  have G0 := Lib.hid (show w.grownBy (w.alloc (.cells #[.int .i64 0, .int .i64 0, .int .i64 0, .int .i64 0, .slice none 0 0] 28)) (some p) from grown_alloc _ _)
  have Z0 := Lib.hid (Blk.new 28 #[.int .i64 0, .int .i64 0, .int .i64 0, .int .i64 0, .slice none 0 0] w)
  clear h
  have hzp : p < w.heap.size := hp
  go_enter Tryd.func40, Tryd.ntmps40
  go_upto_region 1 with fail
  generalize w.alloc (.cells #[.int .i64 0, .int .i64 0, .int .i64 0, .int .i64 0, .slice none 0 0] 28) = W0 at *
  go_wp2_with fail
  refine (among_new (0) 86400 p _ 4 [0, 60, 3600, 86400] _ W0 C0.out (by omega) (by omega) (by omega) rfl rfl (by decide)).mono ?_
  rintro e W1 ⟨s, rfl, s0, s1, hcN, hgN⟩
  have Z1 := Lib.hid (Z0.out.grown hgN (Nat.ne_of_gt hzp))
  have C1 := Lib.hid hcN
  have G1 := Lib.hid (grown_trans G0.out hgN)
  clear hcN hgN Z0 C0 G0
  go_wp2_with fail
  refine (among_new (1) 65535 p _ 4 [1, 7, 4711, 65535] _ W1 C1.out (by omega) (by omega) (by omega) rfl rfl (by decide)).mono ?_
  rintro e W2 ⟨a, rfl, a0, a1, hcN, hgN⟩
  have Z2 := Lib.hid (Z1.out.grown hgN (Nat.ne_of_gt hzp))
  have C2 := Lib.hid hcN
  have G2 := Lib.hid (grown_trans G1.out hgN)
  clear hcN hgN Z1 C1 G1
  go_wp2_with fail
  refine (drawp7.place p _ W2 C2.out (by omega)).mono ?_
  rintro e W3 ⟨x, y, rfl, -, hcN, hgN⟩
  have Z3 := Lib.hid (Z2.out.grown hgN (Nat.ne_of_gt hzp))
  have C3 := Lib.hid hcN
  have G3 := Lib.hid (grown_trans G2.out hgN)
  clear hcN hgN Z2 C2 G2
  go_upto_region 2 with fail
  have HZ := Lib.hid (Z3.out.alloc (.cells #[.int .i64 s, .int .i64 a, .int .i64 x, .int .i64 y, .slice none 0 0] 28))
  have HP := Lib.hid (Blk.new 28 #[.int .i64 s, .int .i64 a, .int .i64 x, .int .i64 y, .slice none 0 0] W3)
  have HC := Lib.hid (Cur.alloc C3.out (.cells #[.int .i64 s, .int .i64 a, .int .i64 x, .int .i64 y, .slice none 0 0] 28))
  have HG := Lib.hid (grown_trans G3.out (grown_alloc (.cells #[.int .i64 s, .int .i64 a, .int .i64 x, .int .i64 y, .slice none 0 0] 28) (some p)))
  have hs3 := G3.out.size
  have hpp : p < W3.heap.size := by omega
  have hzb : w.heap.size < W3.heap.size := Z3.out.lt
  have hWs := World.size_alloc W3 (.cells #[.int .i64 s, .int .i64 a, .int .i64 x, .int .i64 y, .slice none 0 0] 28)
  clear Z3 C3 G3 hs3
  generalize W3.alloc (.cells #[.int .i64 s, .int .i64 a, .int .i64 x, .int .i64 y, .slice none 0 0] 28) = Wp at *
  have hBp : W3.heap.size < Wp.heap.size := by omega
  clear hWs
  generalize W3.heap.size = bp at *
  go_wp2_with fail
  go_loopw [4] (fun sv wr => ∃ (i k : Nat) (v : Value) (xs : List Int), 1 ≤ i ∧ i ≤ 10 ∧ k < i ∧ sv = .int .i64 i ∧ Blk 28 #[.int .i64 0, .int .i64 0, .int .i64 0, .int .i64 0, .slice none 0 0] wr w.heap.size ∧ Blk 28 #[.int .i64 s, .int .i64 a, .int .i64 x, .int .i64 y, v] wr bp ∧ wr.ownsRow Wp.heap.size 3 1 v k (cellsI xs) ∧ Cur wr p (m + 30 + 4 * i) ∧ w.grownBy wr (some p) ∧ Wp.heap.size ≤ wr.heap.size) (fun sv _ => 10 - (intOf sv).toNat)
  case atStart => exact ⟨1, 0, _, [], Nat.le_refl _, by omega, by omega, rfl, HZ.out, HP.out, World.ownsRow_nil .., HC.out.more (by omega), HG.out, Nat.le_refl _⟩
  case round =>
    obtain ⟨i, k, v, xs, hi1, hi10, hki, rfl, hz, hpv, ho, hc, hg, hw⟩ := hrel
    clear HZ HP HC HG
    obtain ⟨Av, cv, rfl⟩ := own_sliceZ ho
    have HZ := Lib.hid hz
    have HP := Lib.hid hpv
    have HO := Lib.hid ho
    have HC := Lib.hid hc
    have HG := Lib.hid hg
    have HW := Lib.hid hw
    clear hz hpv ho hc hg hw
    by_cases hlt : i ≤ 9
    · have hlt2 : (i : Int) ≤ 9 := by omega
      go_wp2_with fail
      refine (one p _ 3 wr HC.out (by omega) (by omega) (by omega)).mono ?_
      rintro e w1 ⟨b, rfl, hcN, hgN⟩
      have HZ := Lib.hid (HZ.out.grown hgN (Nat.ne_of_gt hzp))
      have HP := Lib.hid (HP.out.grown hgN (Nat.ne_of_gt hpp))
      have HO := Lib.hid (own_kept HO.out hgN (fun g e => by injection e with e; omega))
      have HC := Lib.hid hcN
      have HG := Lib.hid (grown_trans HG.out hgN)
      have HW := Lib.hid (Nat.le_trans HW.out hgN.size)
      clear hcN hgN
      cases b
      · by_cases h5 : i = 5
        · have g5 : ((i : Int) == 5) = true := by rw [h5]; rfl
          clear h5
          have c4_ : w1.cell? ⟨bp, 4, none⟩ = some (.slice Av k cv) := HP.out.cell 4 _ rfl
          have O5 := Lib.hid (HO.out.alloc (.cells #[.int .i64 (i : Int)] 3))
          have HB6 := Lib.hid (fun (W6 : World) (g6 : (w1.alloc (.cells #[.int .i64 (i : Int)] 3)).grownBy W6 (Value.slice Av k cv).ownBlock) => show Blk 28 #[.int .i64 s, .int .i64 a, .int .i64 x, .int .i64 y, .slice Av k cv] W6 bp from (g6.block bp (by rw [World.size_alloc]; exact Nat.lt_succ_of_lt HP.out.lt) (fun e => by have := own_.row_ge O5.out bp e.symm; omega)).trans ((Below.heap_alloc _ _ bp HP.out.lt).trans HP.out))
          go_wp2_with (at_builtin; refine wpList_append_any rfl (.tmp 25) (.tmp 27) 26 rfl Wp.heap.size 3 iI (.int .i64 0) 1 8 Tryd.underlying26 hiI hzI0 hzI1 hzI2 rfl (by decide) _ k (cellsI xs) rfl O5.out ⟨w1.heap.size, 0, none⟩ 1 1 [.int .i64 (i : Int)] rfl rfl (cell_one_new _ _ _) (own_.one_cell _ rfl) (by unfold maxLen; omega) (by omega) (by rw [World.size_alloc]; have := HW.out; omega) ?_; intro v6 w6 o6 g6 n6; obtain ⟨A6, c6, rfl⟩ := own_sliceZ o6; have b6_ := HB6.out _ g6; have f4_ := b6_.frozen 4; have q4_ := b6_.cell 4 _ rfl)
          have B6 := HB6.out _ g6
          have Z6 := (show Blk 28 #[.int .i64 0, .int .i64 0, .int .i64 0, .int .i64 0, .slice none 0 0] w6 w.heap.size from (g6.block _ (by rw [World.size_alloc]; exact Nat.lt_succ_of_lt HZ.out.lt) (fun e => by have := own_.row_ge O5.out _ e.symm; omega)).trans ((Below.heap_alloc _ _ _ HZ.out.lt).trans HZ.out))
          have HP7 := Lib.hid (show Blk 28 #[.int .i64 s, .int .i64 a, .int .i64 x, .int .i64 y, .slice A6 (k + 1) c6] (w6.setCell ⟨bp, 4, none⟩ (.slice A6 (k + 1) c6)) bp from B6.set 4 (.slice A6 (k + 1) c6))
          have HZ7 := Lib.hid (Z6.other (Nat.ne_of_lt hzb) 4 (.slice A6 (k + 1) c6))
          have HO7 := Lib.hid (show (w6.setCell ⟨bp, 4, none⟩ (.slice A6 (k + 1) c6)).ownsRow Wp.heap.size 3 1 (.slice A6 (k + 1) c6) (k + 1) (cellsI (xs ++ [(i : Int)])) from by
            have := own_setbox o6 hBp 4 (.slice A6 (k + 1) c6)
            unfold cellsI
            rw [List.map_append]
            exact this)
          have HC7 := Lib.hid (Cur.set (cur_append HC.out HO.out (by omega) HW.out g6) hpp (i := 4) (v := .slice A6 (k + 1) c6))
          have HG7 := Lib.hid (grown_put (grown_append HG.out HO.out (by omega) g6) (Nat.le_of_lt hzb) (i := 4) (v := .slice A6 (k + 1) c6))
          have HW7 := Lib.hid (show Wp.heap.size ≤ (w6.setCell ⟨bp, 4, none⟩ (.slice A6 (k + 1) c6)).heap.size from by have h1 := HW.out; have h2 := g6.size; rw [World.size_alloc] at h2; simp [World.setCell]; omega)
          clear o6 g6 n6 O5 HB6 b6_ c4_ q4_ f4_ B6 Z6 HZ HP HO HC HG HW
          go_wp2_with fail
          go_roundw
          case rel => exact ⟨i + 1, k + 1, _, xs ++ [(i : Int)], by omega, by omega, by omega, by go_num, HZ7.out, HP7.out, HO7.out, HC7.out.more (by omega), HG7.out, HW7.out⟩
          case measure => simp [intOf]; omega
        · have g5 : ((i : Int) == 5) = false := by simp; omega
          clear h5
          go_wp2_with fail
          go_roundw
          case rel => exact ⟨i + 1, k, _, xs, by omega, by omega, by omega, by go_num, HZ.out, HP.out, HO.out, HC.out.more (by omega), HG.out, HW.out⟩
          case measure => simp [intOf]; omega
      · skip
        have c4_ : w1.cell? ⟨bp, 4, none⟩ = some (.slice Av k cv) := HP.out.cell 4 _ rfl
        have O5 := Lib.hid (HO.out.alloc (.cells #[.int .i64 (i : Int)] 3))
        have HB6 := Lib.hid (fun (W6 : World) (g6 : (w1.alloc (.cells #[.int .i64 (i : Int)] 3)).grownBy W6 (Value.slice Av k cv).ownBlock) => show Blk 28 #[.int .i64 s, .int .i64 a, .int .i64 x, .int .i64 y, .slice Av k cv] W6 bp from (g6.block bp (by rw [World.size_alloc]; exact Nat.lt_succ_of_lt HP.out.lt) (fun e => by have := own_.row_ge O5.out bp e.symm; omega)).trans ((Below.heap_alloc _ _ bp HP.out.lt).trans HP.out))
        go_wp2_with (at_builtin; refine wpList_append_any rfl (.tmp 25) (.tmp 27) 26 rfl Wp.heap.size 3 iI (.int .i64 0) 1 8 Tryd.underlying26 hiI hzI0 hzI1 hzI2 rfl (by decide) _ k (cellsI xs) rfl O5.out ⟨w1.heap.size, 0, none⟩ 1 1 [.int .i64 (i : Int)] rfl rfl (cell_one_new _ _ _) (own_.one_cell _ rfl) (by unfold maxLen; omega) (by omega) (by rw [World.size_alloc]; have := HW.out; omega) ?_; intro v6 w6 o6 g6 n6; obtain ⟨A6, c6, rfl⟩ := own_sliceZ o6; have b6_ := HB6.out _ g6; have f4_ := b6_.frozen 4; have q4_ := b6_.cell 4 _ rfl)
        have B6 := HB6.out _ g6
        have Z6 := (show Blk 28 #[.int .i64 0, .int .i64 0, .int .i64 0, .int .i64 0, .slice none 0 0] w6 w.heap.size from (g6.block _ (by rw [World.size_alloc]; exact Nat.lt_succ_of_lt HZ.out.lt) (fun e => by have := own_.row_ge O5.out _ e.symm; omega)).trans ((Below.heap_alloc _ _ _ HZ.out.lt).trans HZ.out))
        have HP7 := Lib.hid (show Blk 28 #[.int .i64 s, .int .i64 a, .int .i64 x, .int .i64 y, .slice A6 (k + 1) c6] (w6.setCell ⟨bp, 4, none⟩ (.slice A6 (k + 1) c6)) bp from B6.set 4 (.slice A6 (k + 1) c6))
        have HZ7 := Lib.hid (Z6.other (Nat.ne_of_lt hzb) 4 (.slice A6 (k + 1) c6))
        have HO7 := Lib.hid (show (w6.setCell ⟨bp, 4, none⟩ (.slice A6 (k + 1) c6)).ownsRow Wp.heap.size 3 1 (.slice A6 (k + 1) c6) (k + 1) (cellsI (xs ++ [(i : Int)])) from by
          have := own_setbox o6 hBp 4 (.slice A6 (k + 1) c6)
          unfold cellsI
          rw [List.map_append]
          exact this)
        have HC7 := Lib.hid (Cur.set (cur_append HC.out HO.out (by omega) HW.out g6) hpp (i := 4) (v := .slice A6 (k + 1) c6))
        have HG7 := Lib.hid (grown_put (grown_append HG.out HO.out (by omega) g6) (Nat.le_of_lt hzb) (i := 4) (v := .slice A6 (k + 1) c6))
        have HW7 := Lib.hid (show Wp.heap.size ≤ (w6.setCell ⟨bp, 4, none⟩ (.slice A6 (k + 1) c6)).heap.size from by have h1 := HW.out; have h2 := g6.size; rw [World.size_alloc] at h2; simp [World.setCell]; omega)
        clear o6 g6 n6 O5 HB6 b6_ c4_ q4_ f4_ B6 Z6 HZ HP HO HC HG HW
        go_wp2_with fail
        go_roundw
        case rel => exact ⟨i + 1, k + 1, _, xs ++ [(i : Int)], by omega, by omega, by omega, by go_num, HZ7.out, HP7.out, HO7.out, HC7.out.more (by omega), HG7.out, HW7.out⟩
        case measure => simp [intOf]; omega
    · obtain rfl : i = 10 := by omega
      go_wp2_with fail
      refine (pick p _ 30 wr HC.out (by omega) (by omega) (by omega)).mono ?_
      rintro e w1 ⟨t, rfl, t0, t1, hcN, hgN⟩
      have HZ := Lib.hid (HZ.out.grown hgN (Nat.ne_of_gt hzp))
      have HP := Lib.hid (HP.out.grown hgN (Nat.ne_of_gt hpp))
      have HO := Lib.hid (own_kept HO.out hgN (fun g e => by injection e with e; omega))
      have HC := Lib.hid hcN
      have HG := Lib.hid (grown_trans HG.out hgN)
      have HW := Lib.hid (Nat.le_trans HW.out hgN.size)
      clear hcN hgN
      by_cases h0 : t = 0
      · subst h0
        go_wp2_with fail
        refine (among_new (-1) 86401 p _ 2 [-1, 86401] _ w1 HC.out (by omega) (by omega) (by omega) rfl rfl (by decide)).mono ?_
        rintro e w2 ⟨z, rfl, zl, zh, hcN, hgN⟩
        have HZ := Lib.hid (HZ.out.grown hgN (Nat.ne_of_gt hzp))
        have HP := Lib.hid (HP.out.grown hgN (Nat.ne_of_gt hpp))
        have HO := Lib.hid (own_kept HO.out hgN (fun g e => by injection e with e; omega))
        have HC := Lib.hid hcN
        have HG := Lib.hid (grown_trans HG.out hgN)
        have HW := Lib.hid (Nat.le_trans HW.out hgN.size)
        clear hcN hgN
        have c0_ := HP.out.cell 0 _ rfl
        have f0_ := HP.out.frozen 0
        have HP7 := Lib.hid (show Blk 28 #[.int .i64 z, .int .i64 a, .int .i64 x, .int .i64 y, .slice Av k cv] (w2.setCell ⟨bp, 0, none⟩ (.int .i64 z)) bp from HP.out.set 0 (.int .i64 z))
        have HZ7 := Lib.hid (HZ.out.other (Nat.ne_of_lt hzb) 0 (.int .i64 z))
        have HO7 := Lib.hid (own_setbox HO.out hBp 0 (.int .i64 z))
        have HC7 := Lib.hid (Cur.set HC.out hpp (i := 0) (v := .int .i64 z))
        have HG7 := Lib.hid (grown_put HG.out (Nat.le_of_lt hzb) (i := 0) (v := .int .i64 z))
        go_upto_region 16 with fail
        clear c0_ f0_ HP HZ HO HC HG
        generalize w2.setCell ⟨bp, 0, none⟩ (.int .i64 z) = w3 at *
        have z0 : w3.cell? ⟨w.heap.size, 0, none⟩ = some (.int .i64 0) := HZ7.out.cell 0 _ rfl
        have zf0 := HZ7.out.frozen 0
        have z1 : w3.cell? ⟨w.heap.size, 1, none⟩ = some (.int .i64 0) := HZ7.out.cell 1 _ rfl
        have zf1 := HZ7.out.frozen 1
        have z2 : w3.cell? ⟨w.heap.size, 2, none⟩ = some (.int .i64 0) := HZ7.out.cell 2 _ rfl
        have zf2 := HZ7.out.frozen 2
        have z3 : w3.cell? ⟨w.heap.size, 3, none⟩ = some (.int .i64 0) := HZ7.out.cell 3 _ rfl
        have zf3 := HZ7.out.frozen 3
        have z4 : w3.cell? ⟨w.heap.size, 4, none⟩ = some (.slice none 0 0) := HZ7.out.cell 4 _ rfl
        have zf4 := HZ7.out.frozen 4
        have q0 : w3.cell? ⟨bp, 0, none⟩ = some (.int .i64 z) := HP7.out.cell 0 _ rfl
        have q1 : w3.cell? ⟨bp, 1, none⟩ = some (.int .i64 a) := HP7.out.cell 1 _ rfl
        have q2 : w3.cell? ⟨bp, 2, none⟩ = some (.int .i64 x) := HP7.out.cell 2 _ rfl
        have q3 : w3.cell? ⟨bp, 3, none⟩ = some (.int .i64 y) := HP7.out.cell 3 _ rfl
        have q4 : w3.cell? ⟨bp, 4, none⟩ = some (.slice Av k cv) := HP7.out.cell 4 _ rfl
        have HE := Lib.hid (((((HZ7.out.set 0 (.int .i64 z)).set 1 (.int .i64 a)).set 2 (.int .i64 x)).set 3 (.int .i64 y)).set 4 (.slice Av k cv))
        have HO9 := Lib.hid (own_setbox (own_setbox (own_setbox (own_setbox (own_setbox HO7.out (Nat.lt_trans hzb hBp) 0 (.int .i64 z)) (Nat.lt_trans hzb hBp) 1 (.int .i64 a)) (Nat.lt_trans hzb hBp) 2 (.int .i64 x)) (Nat.lt_trans hzb hBp) 3 (.int .i64 y)) (Nat.lt_trans hzb hBp) 4 (.slice Av k cv))
        have HC9 := Lib.hid (Cur.set (Cur.set (Cur.set (Cur.set (Cur.set HC7.out hzp (i := 0) (v := .int .i64 z)) hzp (i := 1) (v := .int .i64 a)) hzp (i := 2) (v := .int .i64 x)) hzp (i := 3) (v := .int .i64 y)) hzp (i := 4) (v := .slice Av k cv))
        have HG9 := Lib.hid (grown_put (grown_put (grown_put (grown_put (grown_put HG7.out (Nat.le_refl _) (i := 0) (v := .int .i64 z)) (Nat.le_refl _) (i := 1) (v := .int .i64 a)) (Nat.le_refl _) (i := 2) (v := .int .i64 x)) (Nat.le_refl _) (i := 3) (v := .int .i64 y)) (Nat.le_refl _) (i := 4) (v := .slice Av k cv))
        go_wp2_with fail
        have hl := HE.out.load Tryd.underlying28 rfl (by kernel_rfl)
        refine bodyPost_ret (v := .agg #[.int .i64 z, .int .i64 a, .int .i64 x, .int .i64 y, .slice Av k cv]) ?_ rfl ⟨_, _, _, _, _, k, _, xs, rfl, own_.own_base HO9.out (Nat.le_of_lt (Nat.lt_trans hzb hBp)), by omega, HC9.out.more (by omega), HG9.out⟩
        rw [results_cell1 rfl]
        simp [asAddr, Result.andThen, hl]
      have d0 : (t == 0) = false := by simpa using h0
      by_cases h1 : t = 1
      · subst h1
        go_wp2_with fail
        refine (among_new (0) 65536 p _ 2 [0, 65536] _ w1 HC.out (by omega) (by omega) (by omega) rfl rfl (by decide)).mono ?_
        rintro e w2 ⟨z, rfl, zl, zh, hcN, hgN⟩
        have HZ := Lib.hid (HZ.out.grown hgN (Nat.ne_of_gt hzp))
        have HP := Lib.hid (HP.out.grown hgN (Nat.ne_of_gt hpp))
        have HO := Lib.hid (own_kept HO.out hgN (fun g e => by injection e with e; omega))
        have HC := Lib.hid hcN
        have HG := Lib.hid (grown_trans HG.out hgN)
        have HW := Lib.hid (Nat.le_trans HW.out hgN.size)
        clear hcN hgN
        have c1_ := HP.out.cell 1 _ rfl
        have f1_ := HP.out.frozen 1
        have HP7 := Lib.hid (show Blk 28 #[.int .i64 s, .int .i64 z, .int .i64 x, .int .i64 y, .slice Av k cv] (w2.setCell ⟨bp, 1, none⟩ (.int .i64 z)) bp from HP.out.set 1 (.int .i64 z))
        have HZ7 := Lib.hid (HZ.out.other (Nat.ne_of_lt hzb) 1 (.int .i64 z))
        have HO7 := Lib.hid (own_setbox HO.out hBp 1 (.int .i64 z))
        have HC7 := Lib.hid (Cur.set HC.out hpp (i := 1) (v := .int .i64 z))
        have HG7 := Lib.hid (grown_put HG.out (Nat.le_of_lt hzb) (i := 1) (v := .int .i64 z))
        go_upto_region 16 with fail
        clear c1_ f1_ HP HZ HO HC HG
        generalize w2.setCell ⟨bp, 1, none⟩ (.int .i64 z) = w3 at *
        have z0 : w3.cell? ⟨w.heap.size, 0, none⟩ = some (.int .i64 0) := HZ7.out.cell 0 _ rfl
        have zf0 := HZ7.out.frozen 0
        have z1 : w3.cell? ⟨w.heap.size, 1, none⟩ = some (.int .i64 0) := HZ7.out.cell 1 _ rfl
        have zf1 := HZ7.out.frozen 1
        have z2 : w3.cell? ⟨w.heap.size, 2, none⟩ = some (.int .i64 0) := HZ7.out.cell 2 _ rfl
        have zf2 := HZ7.out.frozen 2
        have z3 : w3.cell? ⟨w.heap.size, 3, none⟩ = some (.int .i64 0) := HZ7.out.cell 3 _ rfl
        have zf3 := HZ7.out.frozen 3
        have z4 : w3.cell? ⟨w.heap.size, 4, none⟩ = some (.slice none 0 0) := HZ7.out.cell 4 _ rfl
        have zf4 := HZ7.out.frozen 4
        have q0 : w3.cell? ⟨bp, 0, none⟩ = some (.int .i64 s) := HP7.out.cell 0 _ rfl
        have q1 : w3.cell? ⟨bp, 1, none⟩ = some (.int .i64 z) := HP7.out.cell 1 _ rfl
        have q2 : w3.cell? ⟨bp, 2, none⟩ = some (.int .i64 x) := HP7.out.cell 2 _ rfl
        have q3 : w3.cell? ⟨bp, 3, none⟩ = some (.int .i64 y) := HP7.out.cell 3 _ rfl
        have q4 : w3.cell? ⟨bp, 4, none⟩ = some (.slice Av k cv) := HP7.out.cell 4 _ rfl
        have HE := Lib.hid (((((HZ7.out.set 0 (.int .i64 s)).set 1 (.int .i64 z)).set 2 (.int .i64 x)).set 3 (.int .i64 y)).set 4 (.slice Av k cv))
        have HO9 := Lib.hid (own_setbox (own_setbox (own_setbox (own_setbox (own_setbox HO7.out (Nat.lt_trans hzb hBp) 0 (.int .i64 s)) (Nat.lt_trans hzb hBp) 1 (.int .i64 z)) (Nat.lt_trans hzb hBp) 2 (.int .i64 x)) (Nat.lt_trans hzb hBp) 3 (.int .i64 y)) (Nat.lt_trans hzb hBp) 4 (.slice Av k cv))
        have HC9 := Lib.hid (Cur.set (Cur.set (Cur.set (Cur.set (Cur.set HC7.out hzp (i := 0) (v := .int .i64 s)) hzp (i := 1) (v := .int .i64 z)) hzp (i := 2) (v := .int .i64 x)) hzp (i := 3) (v := .int .i64 y)) hzp (i := 4) (v := .slice Av k cv))
        have HG9 := Lib.hid (grown_put (grown_put (grown_put (grown_put (grown_put HG7.out (Nat.le_refl _) (i := 0) (v := .int .i64 s)) (Nat.le_refl _) (i := 1) (v := .int .i64 z)) (Nat.le_refl _) (i := 2) (v := .int .i64 x)) (Nat.le_refl _) (i := 3) (v := .int .i64 y)) (Nat.le_refl _) (i := 4) (v := .slice Av k cv))
        go_wp2_with fail
        have hl := HE.out.load Tryd.underlying28 rfl (by kernel_rfl)
        refine bodyPost_ret (v := .agg #[.int .i64 s, .int .i64 z, .int .i64 x, .int .i64 y, .slice Av k cv]) ?_ rfl ⟨_, _, _, _, _, k, _, xs, rfl, own_.own_base HO9.out (Nat.le_of_lt (Nat.lt_trans hzb hBp)), by omega, HC9.out.more (by omega), HG9.out⟩
        rw [results_cell1 rfl]
        simp [asAddr, Result.andThen, hl]
      have d1 : (t == 1) = false := by simpa using h1
      by_cases h2 : t = 2
      · subst h2
        go_upto_region 13 with fail
        have CS := Lib.hid (show ∀ WZ : World, w1.grownBy WZ (some p) → World.cell? WZ ⟨bp, 4, none⟩ = some (.slice Av k cv) from fun WZ hz => (HP.out.grown hz (Nat.ne_of_gt hpp)).cell 4 _ rfl)
        have GD := Lib.hid (show w1.grownBy w1.drew (some p) from ⟨rfl, rfl, rfl, Nat.le_refl _, fun _ _ _ => rfl⟩)
        have HS0 := Lib.hid (CS.out _ GD.out)
        refine wp_region_tail (S := fun w' => World.cell? w' ⟨bp, 4, none⟩ = some (.slice Av k cv)) 8 (by kernel_rfl) HS0.out (fun hHeld => ?_)
        try simp only [Act.put]
        refine wpAnyE_take (i := 0) (v := ?vqs0) rfl (by decide +kernel) (fun _ _ _ h => h) (Or.inl ⟨by rfl, ?hqs0⟩) (by assumption) ?rqs0
        case hqs0 =>
          intro wS hSw
          have h0 := hSw
          go_simp
          try with_reducible rfl
        try simp only [Act.put]
        refine wpAnyE_take (i := 1) (v := ?vqs1) rfl (by decide +kernel) (fun _ _ _ h => h) (Or.inl ⟨by rfl, ?hqs1⟩) (by assumption) ?rqs1
        case hqs1 =>
          intro wS hSw
          have h0 := hSw
          go_simp
          try with_reducible rfl
        try simp only [Act.put]
        refine wpAnyE_take (i := 2) (v := ?vqs2) rfl (by decide +kernel) (fun _ _ _ h => h) (Or.inl ⟨by rfl, ?hqs2⟩) (by assumption) ?rqs2
        case hqs2 =>
          intro wS hSw
          have h0 := hSw
          go_simp
          try with_reducible rfl
        try simp only [Act.put]
        refine wpAnyE_ready (rs := [3]) (by kernel_rfl) (by simp) ?_
        refine AllReadyE.cons (i := 3) rfl (by decide) (fun K hK => ?_) AllReadyE.nil
        go_simp
        refine hK.out _ _ (CS.out _ (grown_trans GD.out (grown_alloc _ _))) (fun hHeld => ?_)
        clear hK K
        try simp only [Act.put]
        refine wpAnyE_ready (rs := [4]) (by kernel_rfl) (by simp) ?_
        refine AllReadyE.cons (i := 4) rfl (by decide) (fun K hK => ?_) AllReadyE.nil
        go_simp
        go_at_call 75
        refine (among_new 0 10 p _ 3 [0, 9, 10] _ w1.drew (HC.out.keep ((Below.refl (p + 1) w1).drew)) (by omega) (by omega) (by omega) rfl rfl (by decide)).mono ?_
        rintro e w2 ⟨z, rfl, zl, zh, hcN, hgN⟩
        have hgN := grown_trans GD.out hgN
        have HZ := Lib.hid (HZ.out.grown hgN (Nat.ne_of_gt hzp))
        have HP := Lib.hid (HP.out.grown hgN (Nat.ne_of_gt hpp))
        have HO := Lib.hid (own_kept HO.out hgN (fun g e => by injection e with e; omega))
        have HC := Lib.hid hcN
        have HG := Lib.hid (grown_trans HG.out hgN)
        have HW := Lib.hid (Nat.le_trans HW.out hgN.size)
        refine hK.out _ _ (HP.out.cell 4 _ rfl) (fun hHeld => ?_)
        clear hK K
        try simp only [Act.put]
        refine wpAnyE_ready (rs := [5]) (by kernel_rfl) (by simp) ?_
        refine AllReadyE.cons (i := 5) rfl (by decide) (fun K hK => ?_) AllReadyE.nil
        go_simp
        refine hK.out _ _ ((HP.out.alloc _).cell 4 _ rfl) (fun hHeld => ?_)
        clear hK K
        try simp only [Act.put]
        refine wpAnyE_ready (rs := [6]) (by kernel_rfl) (by simp) ?_
        refine AllReadyE.cons (i := 6) rfl (by decide) (fun K hK => ?_) AllReadyE.nil
        refine step_append_sz rfl (.tmp 47) (.tmp 51) 26 rfl Wp.heap.size 3 iI (.int .i64 0) 1 8 Tryd.underlying26 hiI hzI0 hzI1 hzI2 rfl (by decide) (.slice Av k cv) k (cellsI xs) rfl (HO.out.alloc (.cells #[.int .i64 z] 3)) ⟨w2.heap.size, 0, none⟩ 1 1 [.int .i64 z] rfl rfl (cell_one_new w2 _ _) (own_.one_cell _ rfl) (by unfold maxLen; omega) (by omega) (by rw [World.size_alloc]; have := HW.out; omega) ?_
        intro v6 w6 o6 g6 r6
        obtain ⟨A6, c6, rfl⟩ := own_sliceZ o6
        have B6 := (show Blk 28 #[.int .i64 s, .int .i64 a, .int .i64 x, .int .i64 y, .slice Av k cv] w6 bp from (g6.block bp (by rw [World.size_alloc]; exact Nat.lt_succ_of_lt HP.out.lt) (fun e => by have := own_.row_ge HO.out bp e.symm; omega)).trans ((Below.heap_alloc _ _ bp HP.out.lt).trans HP.out))
        have Z6 := (show Blk 28 #[.int .i64 0, .int .i64 0, .int .i64 0, .int .i64 0, .slice none 0 0] w6 w.heap.size from (g6.block _ (by rw [World.size_alloc]; exact Nat.lt_succ_of_lt HZ.out.lt) (fun e => by have := own_.row_ge HO.out _ e.symm; omega)).trans ((Below.heap_alloc _ _ _ HZ.out.lt).trans HZ.out))
        have s4 := B6.cell 4 _ rfl
        have f4 := B6.frozen 4
        have HP7 := Lib.hid (show Blk 28 #[.int .i64 s, .int .i64 a, .int .i64 x, .int .i64 y, .slice A6 (k + 1) c6] (w6.setCell ⟨bp, 4, none⟩ (.slice A6 (k + 1) c6)) bp from B6.set 4 (.slice A6 (k + 1) c6))
        have HZ7 := Lib.hid (Z6.other (Nat.ne_of_lt hzb) 4 (.slice A6 (k + 1) c6))
        have HO7 := Lib.hid (show (w6.setCell ⟨bp, 4, none⟩ (.slice A6 (k + 1) c6)).ownsRow Wp.heap.size 3 1 (.slice A6 (k + 1) c6) (k + 1) (cellsI (xs ++ [z])) from by
          have := own_setbox o6 hBp 4 (.slice A6 (k + 1) c6)
          unfold cellsI
          rw [List.map_append]
          exact this)
        have HC7 := Lib.hid (Cur.set (cur_append HC.out HO.out (by omega) HW.out g6) hpp (i := 4) (v := .slice A6 (k + 1) c6))
        have HG7 := Lib.hid (grown_put (grown_append HG.out HO.out (by omega) g6) (Nat.le_of_lt hzb) (i := 4) (v := .slice A6 (k + 1) c6))
        have HS6 := Lib.hid (show World.cell? w6 ⟨bp, 4, none⟩ = some (.slice Av k cv) from s4)
        clear o6 g6 r6 B6 Z6
        refine hK.out _ _ (HS6.out) (fun hHeld => ?_)
        clear hK K
        try simp only [Act.put]
        refine wpAnyE_take (i := 7) (v := ?vqs7) rfl (by decide +kernel) (fun _ _ _ h => h) (Or.inl ⟨by rfl, ?hqs7⟩) (by assumption) ?rqs7
        case hqs7 =>
          intro wS hSw
          have h0 := hSw
          go_simp
          try with_reducible rfl
        try simp only [Act.put]
        refine wpAnyE_ready (rs := [8]) (by kernel_rfl) (by simp) ?_
        refine AllReadyE.last (i := 8) rfl rfl (fun K hK => ?_)
        go_simp
        refine hK.out _ _ ?_
        clear hK K
        try simp only [Act.put]
        refine wpAnyE_done (by kernel_rfl) ?_ _
        try simp only [List.getElem_toArray, List.getElem_cons_succ, List.getElem_cons_zero, List.setIfInBounds_toArray, List.set_cons_succ, List.set_cons_zero]
        clear s4 f4 HS6 CS HS0 HP HZ HO HC HG HW
        go_upto_region 16 with fail
        generalize w6.setCell ⟨bp, 4, none⟩ (.slice A6 (k + 1) c6) = w3 at *
        have z0 : w3.cell? ⟨w.heap.size, 0, none⟩ = some (.int .i64 0) := HZ7.out.cell 0 _ rfl
        have zf0 := HZ7.out.frozen 0
        have z1 : w3.cell? ⟨w.heap.size, 1, none⟩ = some (.int .i64 0) := HZ7.out.cell 1 _ rfl
        have zf1 := HZ7.out.frozen 1
        have z2 : w3.cell? ⟨w.heap.size, 2, none⟩ = some (.int .i64 0) := HZ7.out.cell 2 _ rfl
        have zf2 := HZ7.out.frozen 2
        have z3 : w3.cell? ⟨w.heap.size, 3, none⟩ = some (.int .i64 0) := HZ7.out.cell 3 _ rfl
        have zf3 := HZ7.out.frozen 3
        have z4 : w3.cell? ⟨w.heap.size, 4, none⟩ = some (.slice none 0 0) := HZ7.out.cell 4 _ rfl
        have zf4 := HZ7.out.frozen 4
        have q0 : w3.cell? ⟨bp, 0, none⟩ = some (.int .i64 s) := HP7.out.cell 0 _ rfl
        have q1 : w3.cell? ⟨bp, 1, none⟩ = some (.int .i64 a) := HP7.out.cell 1 _ rfl
        have q2 : w3.cell? ⟨bp, 2, none⟩ = some (.int .i64 x) := HP7.out.cell 2 _ rfl
        have q3 : w3.cell? ⟨bp, 3, none⟩ = some (.int .i64 y) := HP7.out.cell 3 _ rfl
        have q4 : w3.cell? ⟨bp, 4, none⟩ = some (.slice A6 (k + 1) c6) := HP7.out.cell 4 _ rfl
        have HE := Lib.hid (((((HZ7.out.set 0 (.int .i64 s)).set 1 (.int .i64 a)).set 2 (.int .i64 x)).set 3 (.int .i64 y)).set 4 (.slice A6 (k + 1) c6))
        have HO9 := Lib.hid (own_setbox (own_setbox (own_setbox (own_setbox (own_setbox HO7.out (Nat.lt_trans hzb hBp) 0 (.int .i64 s)) (Nat.lt_trans hzb hBp) 1 (.int .i64 a)) (Nat.lt_trans hzb hBp) 2 (.int .i64 x)) (Nat.lt_trans hzb hBp) 3 (.int .i64 y)) (Nat.lt_trans hzb hBp) 4 (.slice A6 (k + 1) c6))
        have HC9 := Lib.hid (Cur.set (Cur.set (Cur.set (Cur.set (Cur.set HC7.out hzp (i := 0) (v := .int .i64 s)) hzp (i := 1) (v := .int .i64 a)) hzp (i := 2) (v := .int .i64 x)) hzp (i := 3) (v := .int .i64 y)) hzp (i := 4) (v := .slice A6 (k + 1) c6))
        have HG9 := Lib.hid (grown_put (grown_put (grown_put (grown_put (grown_put HG7.out (Nat.le_refl _) (i := 0) (v := .int .i64 s)) (Nat.le_refl _) (i := 1) (v := .int .i64 a)) (Nat.le_refl _) (i := 2) (v := .int .i64 x)) (Nat.le_refl _) (i := 3) (v := .int .i64 y)) (Nat.le_refl _) (i := 4) (v := .slice A6 (k + 1) c6))
        go_wp2_with fail
        have hl := HE.out.load Tryd.underlying28 rfl (by kernel_rfl)
        refine bodyPost_ret (v := .agg #[.int .i64 s, .int .i64 a, .int .i64 x, .int .i64 y, .slice A6 (k + 1) c6]) ?_ rfl ⟨_, _, _, _, _, (k + 1), _, (xs ++ [z]), rfl, own_.own_base HO9.out (Nat.le_of_lt (Nat.lt_trans hzb hBp)), by omega, HC9.out.more (by omega), HG9.out⟩
        rw [results_cell1 rfl]
        simp [asAddr, Result.andThen, hl]
      have d2 : (t == 2) = false := by simpa using h2
      by_cases h3 : t = 3
      · subst h3
        have OE := Lib.hid (own_.own_base (own_emptyZ w1 3 1) HW.out)
        have BA := HP.out.alloc (.cells #[] 3)
        have c4_ : (w1.alloc (.cells #[] 3)).cell? ⟨bp, 4, none⟩ = some (.slice Av k cv) := BA.cell 4 _ rfl
        have f4_ := BA.frozen 4
        have HP7 := Lib.hid (show Blk 28 #[.int .i64 s, .int .i64 a, .int .i64 x, .int .i64 y, .slice (some ⟨w1.heap.size, 0, none⟩) 0 0] ((w1.alloc (.cells #[] 3)).setCell ⟨bp, 4, none⟩ (.slice (some ⟨w1.heap.size, 0, none⟩) 0 0)) bp from BA.set 4 (.slice (some ⟨w1.heap.size, 0, none⟩) 0 0))
        have HZ7 := Lib.hid ((HZ.out.alloc (.cells #[] 3)).other (Nat.ne_of_lt hzb) 4 (.slice (some ⟨w1.heap.size, 0, none⟩) 0 0))
        have HO7 := Lib.hid (show ((w1.alloc (.cells #[] 3)).setCell ⟨bp, 4, none⟩ (.slice (some ⟨w1.heap.size, 0, none⟩) 0 0)).ownsRow Wp.heap.size 3 1 (.slice (some ⟨w1.heap.size, 0, none⟩) 0 0) 0 (cellsI []) from own_setbox OE.out hBp 4 (.slice (some ⟨w1.heap.size, 0, none⟩) 0 0))
        have HC7 := Lib.hid (Cur.set (Cur.alloc HC.out (.cells #[] 3)) hpp (i := 4) (v := (.slice (some ⟨w1.heap.size, 0, none⟩) 0 0)))
        have HG7 := Lib.hid (grown_put (grown_trans HG.out (grown_alloc (.cells #[] 3) (some p))) (Nat.le_of_lt hzb) (i := 4) (v := (.slice (some ⟨w1.heap.size, 0, none⟩) 0 0)))
        go_upto_region 16 with fail
        clear c4_ f4_ BA HP HZ HO HC HG OE HW
        generalize (w1.alloc (.cells #[] 3)).setCell ⟨bp, 4, none⟩ (.slice (some ⟨w1.heap.size, 0, none⟩) 0 0) = w3 at *
        generalize w1.heap.size = be at *
        have z0 : w3.cell? ⟨w.heap.size, 0, none⟩ = some (.int .i64 0) := HZ7.out.cell 0 _ rfl
        have zf0 := HZ7.out.frozen 0
        have z1 : w3.cell? ⟨w.heap.size, 1, none⟩ = some (.int .i64 0) := HZ7.out.cell 1 _ rfl
        have zf1 := HZ7.out.frozen 1
        have z2 : w3.cell? ⟨w.heap.size, 2, none⟩ = some (.int .i64 0) := HZ7.out.cell 2 _ rfl
        have zf2 := HZ7.out.frozen 2
        have z3 : w3.cell? ⟨w.heap.size, 3, none⟩ = some (.int .i64 0) := HZ7.out.cell 3 _ rfl
        have zf3 := HZ7.out.frozen 3
        have z4 : w3.cell? ⟨w.heap.size, 4, none⟩ = some (.slice none 0 0) := HZ7.out.cell 4 _ rfl
        have zf4 := HZ7.out.frozen 4
        have q0 : w3.cell? ⟨bp, 0, none⟩ = some (.int .i64 s) := HP7.out.cell 0 _ rfl
        have q1 : w3.cell? ⟨bp, 1, none⟩ = some (.int .i64 a) := HP7.out.cell 1 _ rfl
        have q2 : w3.cell? ⟨bp, 2, none⟩ = some (.int .i64 x) := HP7.out.cell 2 _ rfl
        have q3 : w3.cell? ⟨bp, 3, none⟩ = some (.int .i64 y) := HP7.out.cell 3 _ rfl
        have q4 : w3.cell? ⟨bp, 4, none⟩ = some (.slice (some ⟨be, 0, none⟩) 0 0) := HP7.out.cell 4 _ rfl
        have HE := Lib.hid (((((HZ7.out.set 0 (.int .i64 s)).set 1 (.int .i64 a)).set 2 (.int .i64 x)).set 3 (.int .i64 y)).set 4 (.slice (some ⟨be, 0, none⟩) 0 0))
        have HO9 := Lib.hid (own_setbox (own_setbox (own_setbox (own_setbox (own_setbox HO7.out (Nat.lt_trans hzb hBp) 0 (.int .i64 s)) (Nat.lt_trans hzb hBp) 1 (.int .i64 a)) (Nat.lt_trans hzb hBp) 2 (.int .i64 x)) (Nat.lt_trans hzb hBp) 3 (.int .i64 y)) (Nat.lt_trans hzb hBp) 4 (.slice (some ⟨be, 0, none⟩) 0 0))
        have HC9 := Lib.hid (Cur.set (Cur.set (Cur.set (Cur.set (Cur.set HC7.out hzp (i := 0) (v := .int .i64 s)) hzp (i := 1) (v := .int .i64 a)) hzp (i := 2) (v := .int .i64 x)) hzp (i := 3) (v := .int .i64 y)) hzp (i := 4) (v := .slice (some ⟨be, 0, none⟩) 0 0))
        have HG9 := Lib.hid (grown_put (grown_put (grown_put (grown_put (grown_put HG7.out (Nat.le_refl _) (i := 0) (v := .int .i64 s)) (Nat.le_refl _) (i := 1) (v := .int .i64 a)) (Nat.le_refl _) (i := 2) (v := .int .i64 x)) (Nat.le_refl _) (i := 3) (v := .int .i64 y)) (Nat.le_refl _) (i := 4) (v := .slice (some ⟨be, 0, none⟩) 0 0))
        go_wp2_with fail
        have hl := HE.out.load Tryd.underlying28 rfl (by kernel_rfl)
        refine bodyPost_ret (v := .agg #[.int .i64 s, .int .i64 a, .int .i64 x, .int .i64 y, .slice (some ⟨be, 0, none⟩) 0 0]) ?_ rfl ⟨_, _, _, _, _, 0, _, [], rfl, own_.own_base HO9.out (Nat.le_of_lt (Nat.lt_trans hzb hBp)), by omega, HC9.out.more (by omega), HG9.out⟩
        rw [results_cell1 rfl]
        simp [asAddr, Result.andThen, hl]
      have d3 : (t == 3) = false := by simpa using h3
      have z0 : w1.cell? ⟨w.heap.size, 0, none⟩ = some (.int .i64 0) := HZ.out.cell 0 _ rfl
      have zf0 := HZ.out.frozen 0
      have z1 : w1.cell? ⟨w.heap.size, 1, none⟩ = some (.int .i64 0) := HZ.out.cell 1 _ rfl
      have zf1 := HZ.out.frozen 1
      have z2 : w1.cell? ⟨w.heap.size, 2, none⟩ = some (.int .i64 0) := HZ.out.cell 2 _ rfl
      have zf2 := HZ.out.frozen 2
      have z3 : w1.cell? ⟨w.heap.size, 3, none⟩ = some (.int .i64 0) := HZ.out.cell 3 _ rfl
      have zf3 := HZ.out.frozen 3
      have z4 : w1.cell? ⟨w.heap.size, 4, none⟩ = some (.slice none 0 0) := HZ.out.cell 4 _ rfl
      have zf4 := HZ.out.frozen 4
      have q0 : w1.cell? ⟨bp, 0, none⟩ = some (.int .i64 s) := HP.out.cell 0 _ rfl
      have q1 : w1.cell? ⟨bp, 1, none⟩ = some (.int .i64 a) := HP.out.cell 1 _ rfl
      have q2 : w1.cell? ⟨bp, 2, none⟩ = some (.int .i64 x) := HP.out.cell 2 _ rfl
      have q3 : w1.cell? ⟨bp, 3, none⟩ = some (.int .i64 y) := HP.out.cell 3 _ rfl
      have q4 : w1.cell? ⟨bp, 4, none⟩ = some (.slice Av k cv) := HP.out.cell 4 _ rfl
      have HE := Lib.hid (((((HZ.out.set 0 (.int .i64 s)).set 1 (.int .i64 a)).set 2 (.int .i64 x)).set 3 (.int .i64 y)).set 4 (.slice Av k cv))
      have HO9 := Lib.hid (own_setbox (own_setbox (own_setbox (own_setbox (own_setbox HO.out (Nat.lt_trans hzb hBp) 0 (.int .i64 s)) (Nat.lt_trans hzb hBp) 1 (.int .i64 a)) (Nat.lt_trans hzb hBp) 2 (.int .i64 x)) (Nat.lt_trans hzb hBp) 3 (.int .i64 y)) (Nat.lt_trans hzb hBp) 4 (.slice Av k cv))
      have HC9 := Lib.hid (Cur.set (Cur.set (Cur.set (Cur.set (Cur.set HC.out hzp (i := 0) (v := .int .i64 s)) hzp (i := 1) (v := .int .i64 a)) hzp (i := 2) (v := .int .i64 x)) hzp (i := 3) (v := .int .i64 y)) hzp (i := 4) (v := .slice Av k cv))
      have HG9 := Lib.hid (grown_put (grown_put (grown_put (grown_put (grown_put HG.out (Nat.le_refl _) (i := 0) (v := .int .i64 s)) (Nat.le_refl _) (i := 1) (v := .int .i64 a)) (Nat.le_refl _) (i := 2) (v := .int .i64 x)) (Nat.le_refl _) (i := 3) (v := .int .i64 y)) (Nat.le_refl _) (i := 4) (v := .slice Av k cv))
      go_wp2_with fail
      have hl := HE.out.load Tryd.underlying28 rfl (by kernel_rfl)
      refine bodyPost_ret (v := .agg #[.int .i64 s, .int .i64 a, .int .i64 x, .int .i64 y, .slice Av k cv]) ?_ rfl ⟨_, _, _, _, _, k, _, xs, rfl, own_.own_base HO9.out (Nat.le_of_lt (Nat.lt_trans hzb hBp)), by omega, HC9.out.more (by omega), HG9.out⟩
      rw [results_cell1 rfl]
      simp [asAddr, Result.andThen, hl]

def VQ (w : World) (e : Ending) (w' : World) : Prop := ∃ (s a x y : Int) (A : Option Addr) (k c : Nat) (xs : List Int), e = .returned (.agg #[.int .i64 s, .int .i64 a, .int .i64 x, .int .i64 y, .slice A k c]) ∧ w'.ownsRow w.heap.size 3 1 (.slice A k c) k (cellsI xs) ∧ k ≤ 10 ∧ Below w.heap.size w w'
theorem bytes_al {w : World} {A : Option Addr} {n : Nat} (o : Obj) (h : Bytes w w.heap.size A n) : Bytes (w.alloc o) (w.alloc o).heap.size A n := by
  intro h0
  obtain ⟨b, o', e, hb, hc⟩ := h h0
  exact ⟨b, o', e, by rw [World.size_alloc]; omega, fun j hj => by
    obtain ⟨x, hx⟩ := hc j hj
    exact ⟨x, (World.cell?_alloc_lt w _ ⟨b, o' + j, none⟩ hb).trans hx.1, hx.2⟩⟩
theorem at_grown2 {T : TypeId} {cs : Array Value} {w W W' : World} {b p : Nat} (h : AtS T cs w W b) (hg : W.grownBy W' (some p)) (hne : b ≠ p) (hp : w.heap.size ≤ p) : AtS T cs w W' b :=
  ⟨h.1.grown hg h.1.size (fun g e => by injection e with e; omega), h.2.1, Nat.lt_of_lt_of_le h.2.2.1 hg.size, (hg.block b h.2.2.1 (fun e => hne (by injection e))).trans h.2.2.2⟩
set_option maxRecDepth 100000 in
set_option maxHeartbeats 4000000 in
theorem validPlot (A : Option Addr) (n c : Nat) (w : World) (hn : n ≤ 65536) (h : Bytes w w.heap.size A n) :
    Calls Tryd.prog 31 #[.slice A n c] w (VQ w) := by
  have B0 := Lib.hid ((newS 28 #[.int .i64 0, .int .i64 0, .int .i64 0, .int .i64 0, .slice none 0 0] w).alloc (.cells #[.slice A n c, .int .i64 0, .int .u64 0] 64))
  have hc := new_cur c (by omega) (bytes_al (.cells #[.int .i64 0, .int .i64 0, .int .i64 0, .int .i64 0, .slice none 0 0] 28) h)
  rw [World.size_alloc] at hc
  have HC := Lib.hid hc
  have hsz : ((w.alloc (.cells #[.int .i64 0, .int .i64 0, .int .i64 0, .int .i64 0, .slice none 0 0] 28)).alloc (.cells #[.slice A n c, .int .i64 0, .int .u64 0] 64)).heap.size = w.heap.size + 1 + 1 := by rw [World.size_alloc, World.size_alloc]
  clear h hc
  go_enter Tryd.func31, Tryd.ntmps31
  go_upto_region 2 with fail
  generalize (w.alloc (.cells #[.int .i64 0, .int .i64 0, .int .i64 0, .int .i64 0, .slice none 0 0] 28)).alloc (.cells #[.slice A n c, .int .i64 0, .int .u64 0] 64) = W at *
  have hW : w.heap.size < W.heap.size := by omega
  clear hsz
  go_wp2_with fail
  refine (plot _ 0 W HC.out (by omega)).mono ?_
  rintro e w1 ⟨s, a, x, y, A1, k, c1, xs, rfl, ho, hk, hc1, hg1⟩
  have B1 := Lib.hid (at_grown2 B0.out hg1 (by omega) (by omega))
  have HO := Lib.hid ho
  clear ho hc1 hg1 B0 HC
  have z0 : w1.cell? ⟨w.heap.size, 0, none⟩ = some (.int .i64 0) := B1.out.cell 0
  have zf0 := B1.out.frozen 0
  have z1 : w1.cell? ⟨w.heap.size, 1, none⟩ = some (.int .i64 0) := B1.out.cell 1
  have zf1 := B1.out.frozen 1
  have z2 : w1.cell? ⟨w.heap.size, 2, none⟩ = some (.int .i64 0) := B1.out.cell 2
  have zf2 := B1.out.frozen 2
  have z3 : w1.cell? ⟨w.heap.size, 3, none⟩ = some (.int .i64 0) := B1.out.cell 3
  have zf3 := B1.out.frozen 3
  have z4 : w1.cell? ⟨w.heap.size, 4, none⟩ = some (.slice none 0 0) := B1.out.cell 4
  have zf4 := B1.out.frozen 4
  have HE := Lib.hid (((((B1.out.set 0 (.int .i64 s)).set 1 (.int .i64 a)).set 2 (.int .i64 x)).set 3 (.int .i64 y)).set 4 (.slice A1 k c1))
  have HO9 := Lib.hid (own_setbox (own_setbox (own_setbox (own_setbox (own_setbox HO.out hW 0 (.int .i64 s)) hW 1 (.int .i64 a)) hW 2 (.int .i64 x)) hW 3 (.int .i64 y)) hW 4 (.slice A1 k c1))
  go_wp2_with fail
  have hl := HE.out.load Tryd.underlying28 rfl (by kernel_rfl)
  refine bodyPost_ret (v := .agg #[.int .i64 s, .int .i64 a, .int .i64 x, .int .i64 y, .slice A1 k c1]) ?_ rfl ⟨_, _, _, _, _, k, _, xs, rfl, own_.own_base HO9.out (Nat.le_of_lt hW), hk, HE.out.1⟩
  rw [results_cell1 rfl]
  simp [asAddr, Result.andThen, hl]

set_option maxRecDepth 100000 in
set_option maxHeartbeats 4000000 in
theorem plotText (A : Option Addr) (n c : Nat) (w : World) (hn : n ≤ 65536) (h : Bytes w w.heap.size A n) :
    Calls Tryd.prog 7 #[.slice A n c] w (VQ w) := by
  have B0 := Lib.hid (newS 28 #[.int .i64 0, .int .i64 0, .int .i64 0, .int .i64 0, .slice none 0 0] w)
  have D := Lib.hid (validPlot A n c _ hn (bytes_al (.cells #[.int .i64 0, .int .i64 0, .int .i64 0, .int .i64 0, .slice none 0 0] 28) h))
  clear h
  have hsz := World.size_alloc w (.cells #[.int .i64 0, .int .i64 0, .int .i64 0, .int .i64 0, .slice none 0 0] 28)
  go_enter Tryd.func7, Tryd.ntmps7
  go_upto_region 1 with fail
  generalize w.alloc (.cells #[.int .i64 0, .int .i64 0, .int .i64 0, .int .i64 0, .slice none 0 0] 28) = W at *
  have hW : w.heap.size < W.heap.size := by omega
  clear hsz
  go_wp2_with fail
  refine D.out.mono ?_
  rintro e w1 ⟨s, a, x, y, A1, k, c1, xs, rfl, ho, hk, hb⟩
  have B1 := Lib.hid (B0.out.old hb)
  have HO := Lib.hid ho
  clear ho hb B0 D
  have z0 : w1.cell? ⟨w.heap.size, 0, none⟩ = some (.int .i64 0) := B1.out.cell 0
  have zf0 := B1.out.frozen 0
  have z1 : w1.cell? ⟨w.heap.size, 1, none⟩ = some (.int .i64 0) := B1.out.cell 1
  have zf1 := B1.out.frozen 1
  have z2 : w1.cell? ⟨w.heap.size, 2, none⟩ = some (.int .i64 0) := B1.out.cell 2
  have zf2 := B1.out.frozen 2
  have z3 : w1.cell? ⟨w.heap.size, 3, none⟩ = some (.int .i64 0) := B1.out.cell 3
  have zf3 := B1.out.frozen 3
  have z4 : w1.cell? ⟨w.heap.size, 4, none⟩ = some (.slice none 0 0) := B1.out.cell 4
  have zf4 := B1.out.frozen 4
  have HE := Lib.hid (((((B1.out.set 0 (.int .i64 s)).set 1 (.int .i64 a)).set 2 (.int .i64 x)).set 3 (.int .i64 y)).set 4 (.slice A1 k c1))
  have HO9 := Lib.hid (own_setbox (own_setbox (own_setbox (own_setbox (own_setbox HO.out hW 0 (.int .i64 s)) hW 1 (.int .i64 a)) hW 2 (.int .i64 x)) hW 3 (.int .i64 y)) hW 4 (.slice A1 k c1))
  go_wp2_with fail
  have hl := HE.out.load Tryd.underlying28 rfl (by kernel_rfl)
  refine bodyPost_ret (v := .agg #[.int .i64 s, .int .i64 a, .int .i64 x, .int .i64 y, .slice A1 k c1]) ?_ rfl ⟨_, _, _, _, _, k, _, xs, rfl, own_.own_base HO9.out (Nat.le_of_lt hW), hk, HE.out.1⟩
  rw [results_cell1 rfl]
  simp [asAddr, Result.andThen, hl]

def TQ (w : World) (e : Ending) (w' : World) : Prop := ∃ t : ByteArray, e = .returned (.string t) ∧ t.size ≤ 100 ∧ Below w.heap.size w w'
theorem ptV_size {s a x y : Int} {xs : List Int} {k : Nat} (hl : xs.length = k) : (ptx.ptV s a x y xs k).size ≤ 60 := by
  unfold ptx.ptV
  split
  · rename_i h
    exact ptx.ptx_size hl h
  · exact Nat.zero_le _
set_option maxRecDepth 100000 in
set_option maxHeartbeats 4000000 in
theorem parsePlot (A : Option Addr) (n c : Nat) (w : World) (hn : n ≤ 65536) (h : Bytes w w.heap.size A n) :
    Calls Tryd.prog 13 #[.slice A n c] w (TQ w) := by
  have HC0 := Lib.hid (new_cur c (by omega) h)
  have B0 := Lib.hid (newS 64 #[.slice A n c, .int .i64 0, .int .u64 0] w)
  have hsz := World.size_alloc w (.cells #[.slice A n c, .int .i64 0, .int .u64 0] 64)
  clear h
  go_enter Tryd.func13, Tryd.ntmps13
  go_upto_region 2 with fail
  generalize w.alloc (.cells #[.slice A n c, .int .i64 0, .int .u64 0] 64) = W0 at *
  have hW : w.heap.size < W0.heap.size := by omega
  clear hsz
  go_wp2_with fail
  refine (plot _ 0 W0 HC0.out (by omega)).mono ?_
  rintro e w1 ⟨s, a, x, y, A1, k, c1, xs, rfl, ho, hk, hc1, hg1⟩
  have B1 := Lib.hid (below_of_grown B0.out.1 hg1)
  have HC1 := Lib.hid hc1
  have HT := Lib.hid (ptxt.plotTextS s a x y xs A1 k c1 w1 (by omega) (rd_of_own ho (own_len1 ho)))
  have hts := ptV_size (s := s) (a := a) (x := x) (y := y) (own_len1 ho)
  clear ho hc1 hg1 B0 HC0
  generalize ptx.ptV s a x y xs k = t at *
  generalize pltm.plB s a x y xs k = q at *
  go_wp2_with fail
  refine HT.out.mono ?_
  rintro e w2 ⟨rfl, hb2⟩
  have B2 := Lib.hid (B1.out.trans (hb2.mono B1.out.size))
  have HC2 := Lib.hid (Go.Proofs.YtdjcbfeilkepmaaDoor.atc.Cur.below HC1.out hb2)
  clear hb2 B1 HC1 HT
  go_wp2_with fail
  refine (one _ _ 4 w2 HC2.out (by omega) (by omega) (by omega)).mono ?_
  rintro e w3 ⟨b, rfl, hc3, hg3⟩
  have B3 := Lib.hid (below_of_grown B2.out hg3)
  have HC3 := Lib.hid hc3
  clear hc3 hg3 B2 HC2
  cases b
  · go_wp2_with fail
    go_ret
    exact ⟨t, rfl, by omega, B3.out⟩
  · go_wp2_with fail
    refine (spoilt _ _ t ⟨#[58, 47, 32, 48, 53]⟩ w3 HC3.out (by omega) (by omega) (by decide) (by decide)).mono ?_
    rintro e w4 ⟨u, rfl, hu, hc4, hg4⟩
    have B4 := Lib.hid (below_of_grown B3.out hg4)
    clear hc4 hg4 B3 HC3
    go_wp2_with fail
    go_ret
    exact ⟨u, rfl, by omega, B4.out⟩
end Go.Proofs.YtdjcbfeilkepmaaDoor.drawu13

namespace Go.Proofs.YtdjcbfeilkepmaaDoor.fnPlotTexts
open Go.ChangeShapes Go.WideShapes Go.ChangeAt Go.RowKit
open Go.ChangeMaps (open_string shut_string)
open Go.Proofs.YtdjcbfeilkepmaaDoor.code_ Go.Proofs.YtdjcbfeilkepmaaDoor.cur Go.Proofs.YtdjcbfeilkepmaaDoor.ats Go.Proofs.YtdjcbfeilkepmaaDoor.lst Go.Proofs.YtdjcbfeilkepmaaDoor.ints Go.Proofs.YtdjcbfeilkepmaaDoor.in_ Go.Proofs.YtdjcbfeilkepmaaDoor.plt Go.Proofs.YtdjcbfeilkepmaaDoor.pltm Go.Proofs.YtdjcbfeilkepmaaDoor.ptx
set_option linter.unusedVariables false

theorem bool_ne_self (b : Bool) : (b != b) = false := by simp
theorem int_ne_self (b : Int) : (b != b) = false := by simp
theorem bool_eq_self (b : Bool) : (b == b) = true := by simp
theorem int_eq_self (b : Int) : (b == b) = true := by simp

theorem str_ne_self (x : ByteArray) : (!(x.toList == x.toList)) = false := by simp
theorem eq_no {x y : Int} (h : x ≠ y) : (x == y) = false := by simpa using h
theorem pL_len (t : ByteArray) : (pL t).length ≤ 9 := by
  unfold pL
  split
  · unfold rL; exact ptxi.rD_len _
  · exact Nat.zero_le _
theorem text_back {s a x y : Int} {xs : List Int} (h : plB s a x y xs xs.length = true) : ppB (ptV s a x y xs xs.length) = true ∧ pS (ptV s a x y xs xs.length) = s ∧ pA (ptV s a x y xs xs.length) = a ∧ pX (ptV s a x y xs xs.length) = x ∧ pY (ptV s a x y xs xs.length) = y ∧ pL (ptV s a x y xs xs.length) = xs := by
  have e : ptxT s a x y xs xs.length = ptV s a x y xs xs.length := by unfold ptV; rw [h]; rfl
  obtain ⟨h1, h2, h3, h4, h5, h6⟩ := pp_text rfl h e
  obtain ⟨g1, g2, g3, g4, g5⟩ := p_yes h1
  exact ⟨h1, g1.trans h2, g2.trans h3, g3.trans h4, g4.trans h5, g5.trans h6⟩
theorem cn_told {zs : List Int} {n : Nat} (h : svB zs n = true) : smT (cnV zs n) (cnV zs n).length = (n : Int) ∧ ∀ k, k ≤ (cnV zs n).length → 0 ≤ smT (cnV zs n) k ∧ smT (cnV zs n) k ≤ 1000000 := by
  have h20 := (svB_yes h).2
  rw [cnV_yes h, cnT_length]
  refine ⟨ptxm.cn_sum h n (Nat.le_refl _), fun k hk => ?_⟩
  have h3 : ∀ j, j < k → 0 ≤ (cnT zs n).getD j 0 ∧ (cnT zs n).getD j 0 ≤ 20 := fun j hj => by
    obtain ⟨v, hv, h0, h1, -⟩ := cnT_get (zs := zs) (k := n) (s := j) (by omega)
    rw [List.getD_eq_getElem?_getD, hv]
    exact ⟨h0, by show v ≤ 20; omega⟩
  have := smT_in h3
  omega
theorem lone {zs : List Int} {n i : Nat} {w r : Int} (hi : i < (gsV zs n w r).length) : asB zs n w r = true ∧ ∃ x, (gsV zs n w r)[i]? = some x ∧ ptxm.hb (loV zs n w r) (i : Int) (loV zs n w r).length = (((ptxm.ct (gsV zs n w r) x (gsV zs n w r).length : Nat) : Int) == 1) := by
  cases h : asB zs n w r
  · rw [gsV_no h] at hi; simp at hi
  · rw [gsV_yes h] at hi ⊢
    rw [gsT_length] at hi ⊢
    refine ⟨rfl, ((num zs w r i : Nat) : Int), ?_, ?_⟩
    · unfold gsT
      rw [List.getElem?_map, List.getElem?_range hi]; rfl
    · rw [loV_yes h]; exact ptxm.lonely hi
theorem at_get {xs : List Int} {k : Nat} {z : Int} (h : xs[k]? = some z) : xs.getD k 0 = z := by rw [List.getD_eq_getElem?_getD, h]; rfl

set_option maxRecDepth 100000 in
set_option maxHeartbeats 16000000 in
theorem walk (A : Option Addr) (n c : Nat) (z : List Int) (w : World) (w0 : IsRow .u8 w A n c z) (ht : fmt.Tab w) (hm : ptxi.Mx w) :
    Calls Tryd.prog 3 #[.slice A n c] w fun e w' => e = .returned (.bool true) ∧ Below w.heap.size w w' := by
  obtain ⟨hby, hnc, -⟩ := bytes_of w0
  clear w0
  have hv := Lib.hid (fun w => rBig A n c w)
  by_cases hbig : (65536 : Int) < (n : Int)
  · clear hby ht hm
    go_enter Tryd.func3, Tryd.ntmps3
    go_wp2_with fail
    refine (hv.out _).mono ?_
    rintro e w1 ⟨rfl, rfl⟩
    go_wp2_with fail
    go_ret
    exact ⟨rfl, Below.refl _ _⟩
  have hd : decide ((65536 : Int) < (n : Int)) = false := by simpa using hbig
  have hn : n ≤ 65536 := by omega
  have H := Lib.hid hby
  have TT := Lib.hid (fun (W : World) (hb : Below w.heap.size w W) => fmt.tab_on ht hb)
  have MM := Lib.hid (fun (W : World) (hb : Below w.heap.size w W) => ptxi.mx_on hm hb)
  clear ht hm
  clear hby hbig hnc
  go_enter Tryd.func3, Tryd.ntmps3
  go_wp2_with fail
  refine (hv.out _).mono ?_
  rintro e wx ⟨rfl, rfl⟩
  clear hd hv
  have AN1 := Lib.hid (Below.refl w.heap.size w)
  go_wp2_with fail
  refine (drawu13.plotText A n c w hn (Bytes_below H.out AN1.out)).mono ?_
  rintro e V1 ⟨s, a, x, y, Ap, kp, cp, xs, rfl, hop, hkp, h1⟩
  obtain rfl : xs.length = kp := drawu13.own_len1 hop
  have AN2 := Lib.hid (AN1.out.trans (h1.mono AN1.out.size))
  clear AN1
  have Rp := Lib.hid (intc.rd_of_own hop rfl)
  clear hop h1
  have AN3 := Lib.hid (Below.refl V1.heap.size V1)
  have BXP := Lib.hid (newS 28 #[.int .i64 s, .int .i64 a, .int .i64 x, .int .i64 y, .slice Ap xs.length cp] V1)
  have AN4 := Lib.hid (AN2.out.alloc AN2.out.size (.cells #[.int .i64 s, .int .i64 a, .int .i64 x, .int .i64 y, .slice Ap xs.length cp] 28))
  clear AN2
  have AN5 := Lib.hid (AN3.out.alloc AN3.out.size (.cells #[.int .i64 s, .int .i64 a, .int .i64 x, .int .i64 y, .slice Ap xs.length cp] 28))
  clear AN3
  go_upto_region 4 with fail
  generalize V1.alloc (.cells #[.int .i64 s, .int .i64 a, .int .i64 x, .int .i64 y, .slice Ap xs.length cp] 28) = W1 at *
  have AN6 := Lib.hid (Below.refl W1.heap.size W1)
  have PI := Lib.hid (fun W h t => ptxt.plotTextI s a x y xs Ap xs.length cp W (by omega) h t)
  have PS := Lib.hid (fun W h => ptxt.plotTextS s a x y xs Ap xs.length cp W (by omega) h)
  have PV := Lib.hid (fun W h => pltu.isValidPlot s a x y xs Ap xs.length cp W (by omega) h)
  have FB := Lib.hid (fun (h : plB s a x y xs xs.length = true) => text_back h)
  have HTS := Lib.hid (drawu13.ptV_size (s := s) (a := a) (x := x) (y := y) (xs := xs) rfl)
  generalize ptV s a x y xs xs.length = T at *
  generalize plB s a x y xs xs.length = O at *
  have ne1 := bool_ne_self O
  have ne2 := str_ne_self T
  have kP0_ : W1.cell? ⟨V1.heap.size, 0, none⟩ = some (.int .i64 s) := (BXP.out.old AN6.out).cell 0
  have kP1_ : W1.cell? ⟨V1.heap.size, 1, none⟩ = some (.int .i64 a) := (BXP.out.old AN6.out).cell 1
  have kP2_ : W1.cell? ⟨V1.heap.size, 2, none⟩ = some (.int .i64 x) := (BXP.out.old AN6.out).cell 2
  have kP3_ : W1.cell? ⟨V1.heap.size, 3, none⟩ = some (.int .i64 y) := (BXP.out.old AN6.out).cell 3
  have kP4_ : W1.cell? ⟨V1.heap.size, 4, none⟩ = some (.slice Ap xs.length cp) := (BXP.out.old AN6.out).cell 4
  go_wp2_with fail
  clear kP0_ kP1_ kP2_ kP3_ kP4_
  refine (PI.out W1 (Rp.out.next AN5.out) (TT.out W1 AN4.out)).mono ?_
  rintro e V7 ⟨rfl, h8⟩
  have AN9 := Lib.hid (AN4.out.trans (h8.mono AN4.out.size))
  clear AN4
  have AN10 := Lib.hid (AN5.out.trans (h8.mono AN5.out.size))
  clear AN5
  have AN11 := Lib.hid (AN6.out.trans (h8.mono AN6.out.size))
  clear AN6
  clear h8
  have kP0_ : V7.cell? ⟨V1.heap.size, 0, none⟩ = some (.int .i64 s) := (BXP.out.old AN11.out).cell 0
  have kP1_ : V7.cell? ⟨V1.heap.size, 1, none⟩ = some (.int .i64 a) := (BXP.out.old AN11.out).cell 1
  have kP2_ : V7.cell? ⟨V1.heap.size, 2, none⟩ = some (.int .i64 x) := (BXP.out.old AN11.out).cell 2
  have kP3_ : V7.cell? ⟨V1.heap.size, 3, none⟩ = some (.int .i64 y) := (BXP.out.old AN11.out).cell 3
  have kP4_ : V7.cell? ⟨V1.heap.size, 4, none⟩ = some (.slice Ap xs.length cp) := (BXP.out.old AN11.out).cell 4
  go_wp2_with fail
  clear kP0_ kP1_ kP2_ kP3_ kP4_
  refine (PS.out V7 (Rp.out.next AN10.out)).mono ?_
  rintro e V12 ⟨rfl, h13⟩
  have AN14 := Lib.hid (AN9.out.trans (h13.mono AN9.out.size))
  clear AN9
  have AN15 := Lib.hid (AN10.out.trans (h13.mono AN10.out.size))
  clear AN10
  have AN16 := Lib.hid (AN11.out.trans (h13.mono AN11.out.size))
  clear AN11
  clear h13
  have kP0_ : V12.cell? ⟨V1.heap.size, 0, none⟩ = some (.int .i64 s) := (BXP.out.old AN16.out).cell 0
  have kP1_ : V12.cell? ⟨V1.heap.size, 1, none⟩ = some (.int .i64 a) := (BXP.out.old AN16.out).cell 1
  have kP2_ : V12.cell? ⟨V1.heap.size, 2, none⟩ = some (.int .i64 x) := (BXP.out.old AN16.out).cell 2
  have kP3_ : V12.cell? ⟨V1.heap.size, 3, none⟩ = some (.int .i64 y) := (BXP.out.old AN16.out).cell 3
  have kP4_ : V12.cell? ⟨V1.heap.size, 4, none⟩ = some (.slice Ap xs.length cp) := (BXP.out.old AN16.out).cell 4
  go_wp2_with fail
  clear kP0_ kP1_ kP2_ kP3_ kP4_
  refine (PV.out V12 (Rp.out.next AN15.out)).mono ?_
  rintro e V17 ⟨rfl, h18⟩
  have AN19 := Lib.hid (AN14.out.trans (h18.mono AN14.out.size))
  clear AN14
  have AN20 := Lib.hid (AN15.out.trans (h18.mono AN15.out.size))
  clear AN15
  have AN21 := Lib.hid (AN16.out.trans (h18.mono AN16.out.size))
  clear AN16
  clear h18
  clear PI PS PV
  have QI := Lib.hid (fun W t u => ptxi.parsePlotI T W (by have := HTS.out; omega) t u)
  have HL9 := Lib.hid (pL_len T)
  generalize pS T = s2 at *
  generalize pA T = a2 at *
  generalize pX T = x2 at *
  generalize pY T = y2 at *
  generalize ppB T = o2 at *
  generalize pL T = L2 at *
  go_wp2_with fail
  refine (QI.out V17 (TT.out V17 AN19.out) (MM.out V17 AN19.out)).mono ?_
  rintro e V22 ⟨vb, rfl, ho24, h23⟩
  obtain ⟨Ab, cb, rfl⟩ := own_sliceZ ho24
  have AN25 := Lib.hid (AN19.out.trans (h23.mono AN19.out.size))
  clear AN19
  have AN26 := Lib.hid (AN20.out.trans (h23.mono AN20.out.size))
  clear AN20
  have AN27 := Lib.hid (AN21.out.trans (h23.mono AN21.out.size))
  clear AN21
  have Rb := Lib.hid (intc.rd_of_own ho24 rfl)
  clear h23 ho24
  have AN28 := Lib.hid (Below.refl V22.heap.size V22)
  have BXB := Lib.hid (newS 28 #[.int .i64 s2, .int .i64 a2, .int .i64 x2, .int .i64 y2, .slice Ab L2.length cb] V22)
  have AN29 := Lib.hid (AN25.out.alloc AN25.out.size (.cells #[.int .i64 s2, .int .i64 a2, .int .i64 x2, .int .i64 y2, .slice Ab L2.length cb] 28))
  clear AN25
  have AN30 := Lib.hid (AN26.out.alloc AN26.out.size (.cells #[.int .i64 s2, .int .i64 a2, .int .i64 x2, .int .i64 y2, .slice Ab L2.length cb] 28))
  clear AN26
  have AN31 := Lib.hid (AN27.out.alloc AN27.out.size (.cells #[.int .i64 s2, .int .i64 a2, .int .i64 x2, .int .i64 y2, .slice Ab L2.length cb] 28))
  clear AN27
  have AN32 := Lib.hid (AN28.out.alloc AN28.out.size (.cells #[.int .i64 s2, .int .i64 a2, .int .i64 x2, .int .i64 y2, .slice Ab L2.length cb] 28))
  clear AN28
  go_upto_region 9 with fail
  generalize V22.alloc (.cells #[.int .i64 s2, .int .i64 a2, .int .i64 x2, .int .i64 y2, .slice Ab L2.length cb] 28) = W2 at *
  have AN33 := Lib.hid (Below.refl W2.heap.size W2)
  go_cut [75] from 65 to 75 (fun u wz => u = .bool false ∧ Below W2.heap.size W2 wz)
  case first =>
    cases O
    · go_wp2_with fail
      go_meet
      exact ⟨rfl, Below.refl _ _⟩
    · skip
      obtain ⟨rfl, rfl, rfl, rfl, rfl, rfl⟩ := FB.out rfl
      have AN34 := Lib.hid (Below.refl W2.heap.size W2)
      have kB0_ : W2.cell? ⟨V22.heap.size, 0, none⟩ = some (.int .i64 s2) := (BXB.out.old AN33.out).cell 0
      have kB1_ : W2.cell? ⟨V22.heap.size, 1, none⟩ = some (.int .i64 a2) := (BXB.out.old AN33.out).cell 1
      have kB2_ : W2.cell? ⟨V22.heap.size, 2, none⟩ = some (.int .i64 x2) := (BXB.out.old AN33.out).cell 2
      have kB3_ : W2.cell? ⟨V22.heap.size, 3, none⟩ = some (.int .i64 y2) := (BXB.out.old AN33.out).cell 3
      have kB4_ : W2.cell? ⟨V22.heap.size, 4, none⟩ = some (.slice Ab L2.length cb) := (BXB.out.old AN33.out).cell 4
      have kP0_ : W2.cell? ⟨V1.heap.size, 0, none⟩ = some (.int .i64 s2) := (BXP.out.old AN31.out).cell 0
      have kP1_ : W2.cell? ⟨V1.heap.size, 1, none⟩ = some (.int .i64 a2) := (BXP.out.old AN31.out).cell 1
      have kP2_ : W2.cell? ⟨V1.heap.size, 2, none⟩ = some (.int .i64 x2) := (BXP.out.old AN31.out).cell 2
      have kP3_ : W2.cell? ⟨V1.heap.size, 3, none⟩ = some (.int .i64 y2) := (BXP.out.old AN31.out).cell 3
      have kP4_ : W2.cell? ⟨V1.heap.size, 4, none⟩ = some (.slice Ap L2.length cp) := (BXP.out.old AN31.out).cell 4
      go_wp2_with fail
      clear kB0_ kB1_ kB2_ kB3_ kB4_ kP0_ kP1_ kP2_ kP3_ kP4_
      refine (rpl.rPlot s2 a2 x2 y2 L2 Ab Ap L2.length cb cp W2 (by have := HL9.out; omega) (Rb.out.next AN32.out) (Rp.out.next AN30.out)).mono ?_
      rintro e V35 ⟨rfl, h36⟩
      have AN37 := Lib.hid (AN29.out.trans (h36.mono AN29.out.size))
      clear AN29
      have AN38 := Lib.hid (AN30.out.trans (h36.mono AN30.out.size))
      clear AN30
      have AN39 := Lib.hid (AN31.out.trans (h36.mono AN31.out.size))
      clear AN31
      have AN40 := Lib.hid (AN32.out.trans (h36.mono AN32.out.size))
      clear AN32
      have AN41 := Lib.hid (AN33.out.trans (h36.mono AN33.out.size))
      clear AN33
      have AN42 := Lib.hid (AN34.out.trans (h36.mono AN34.out.size))
      clear AN34
      clear h36
      go_wp2_with fail
      go_meet
      exact ⟨rfl, AN42.out⟩
  case rest =>
    obtain ⟨rfl, hbc⟩ := hcut
    have AN43 := Lib.hid (AN29.out.trans (hbc.mono AN29.out.size))
    clear AN29
    have AN44 := Lib.hid (AN30.out.trans (hbc.mono AN30.out.size))
    clear AN30
    have AN45 := Lib.hid (AN31.out.trans (hbc.mono AN31.out.size))
    clear AN31
    have AN46 := Lib.hid (AN32.out.trans (hbc.mono AN32.out.size))
    clear AN32
    have AN47 := Lib.hid (AN33.out.trans (hbc.mono AN33.out.size))
    clear AN33
    clear hbc ne1 ne2 FB
    clear AN44
    clear AN46
    clear Rp Rb QI HL9 HTS
    clear BXP AN45
    clear BXB AN47
    generalize wc = VB at *
    go_wp2_with fail
    refine (drawu13.parsePlot A n c VB hn (Bytes_below H.out AN43.out)).mono ?_
    rintro e V3 ⟨t, rfl, hts, h2⟩
    have AN48 := Lib.hid (AN43.out.trans (h2.mono AN43.out.size))
    clear AN43
    clear h2
    have QI := Lib.hid (fun W u v => ptxi.parsePlotI t W (by omega) u v)
    have QS := Lib.hid (fun W => ptxs.parsePlotS t W (by omega))
    have HL9 := Lib.hid (pL_len t)
    generalize pS t = s3 at *
    generalize pA t = a3 at *
    generalize pX t = x3 at *
    generalize pY t = y3 at *
    generalize ppB t = o3 at *
    generalize pL t = L3 at *
    have ne3 := bool_ne_self o3
    go_wp2_with fail
    refine (QI.out V3 (TT.out V3 AN48.out) (MM.out V3 AN48.out)).mono ?_
    rintro e V49 ⟨vd, rfl, ho51, h50⟩
    obtain ⟨Ad, cd, rfl⟩ := own_sliceZ ho51
    have AN52 := Lib.hid (AN48.out.trans (h50.mono AN48.out.size))
    clear AN48
    have Rd := Lib.hid (intc.rd_of_own ho51 rfl)
    clear h50 ho51
    have AN53 := Lib.hid (Below.refl V49.heap.size V49)
    have BXD := Lib.hid (newS 28 #[.int .i64 s3, .int .i64 a3, .int .i64 x3, .int .i64 y3, .slice Ad L3.length cd] V49)
    have AN54 := Lib.hid (AN52.out.alloc AN52.out.size (.cells #[.int .i64 s3, .int .i64 a3, .int .i64 x3, .int .i64 y3, .slice Ad L3.length cd] 28))
    clear AN52
    have AN55 := Lib.hid (AN53.out.alloc AN53.out.size (.cells #[.int .i64 s3, .int .i64 a3, .int .i64 x3, .int .i64 y3, .slice Ad L3.length cd] 28))
    clear AN53
    go_upto_region 13 with fail
    generalize V49.alloc (.cells #[.int .i64 s3, .int .i64 a3, .int .i64 x3, .int .i64 y3, .slice Ad L3.length cd] 28) = W3 at *
    have AN56 := Lib.hid (Below.refl W3.heap.size W3)
    go_wp2_with fail
    refine (QS.out W3).mono ?_
    rintro e V57 ⟨vf, rfl, ho59, h58⟩
    obtain ⟨Af, cf, rfl⟩ := own_sliceZ ho59
    have AN60 := Lib.hid (AN54.out.trans (h58.mono AN54.out.size))
    clear AN54
    have AN61 := Lib.hid (AN55.out.trans (h58.mono AN55.out.size))
    clear AN55
    have AN62 := Lib.hid (AN56.out.trans (h58.mono AN56.out.size))
    clear AN56
    have Rf := Lib.hid (intc.rd_of_own ho59 rfl)
    clear h58 ho59
    have AN63 := Lib.hid (Below.refl V57.heap.size V57)
    have BXF := Lib.hid (newS 28 #[.int .i64 s3, .int .i64 a3, .int .i64 x3, .int .i64 y3, .slice Af L3.length cf] V57)
    have AN64 := Lib.hid (AN60.out.alloc AN60.out.size (.cells #[.int .i64 s3, .int .i64 a3, .int .i64 x3, .int .i64 y3, .slice Af L3.length cf] 28))
    clear AN60
    have AN65 := Lib.hid (AN61.out.alloc AN61.out.size (.cells #[.int .i64 s3, .int .i64 a3, .int .i64 x3, .int .i64 y3, .slice Af L3.length cf] 28))
    clear AN61
    have AN66 := Lib.hid (AN62.out.alloc AN62.out.size (.cells #[.int .i64 s3, .int .i64 a3, .int .i64 x3, .int .i64 y3, .slice Af L3.length cf] 28))
    clear AN62
    have AN67 := Lib.hid (AN63.out.alloc AN63.out.size (.cells #[.int .i64 s3, .int .i64 a3, .int .i64 x3, .int .i64 y3, .slice Af L3.length cf] 28))
    clear AN63
    go_upto_region 14 with fail
    generalize V57.alloc (.cells #[.int .i64 s3, .int .i64 a3, .int .i64 x3, .int .i64 y3, .slice Af L3.length cf] 28) = W4 at *
    have AN68 := Lib.hid (Below.refl W4.heap.size W4)
    have kD0_ : W4.cell? ⟨V49.heap.size, 0, none⟩ = some (.int .i64 s3) := (BXD.out.old AN66.out).cell 0
    have kD1_ : W4.cell? ⟨V49.heap.size, 1, none⟩ = some (.int .i64 a3) := (BXD.out.old AN66.out).cell 1
    have kD2_ : W4.cell? ⟨V49.heap.size, 2, none⟩ = some (.int .i64 x3) := (BXD.out.old AN66.out).cell 2
    have kD3_ : W4.cell? ⟨V49.heap.size, 3, none⟩ = some (.int .i64 y3) := (BXD.out.old AN66.out).cell 3
    have kD4_ : W4.cell? ⟨V49.heap.size, 4, none⟩ = some (.slice Ad L3.length cd) := (BXD.out.old AN66.out).cell 4
    have kF0_ : W4.cell? ⟨V57.heap.size, 0, none⟩ = some (.int .i64 s3) := (BXF.out.old AN68.out).cell 0
    have kF1_ : W4.cell? ⟨V57.heap.size, 1, none⟩ = some (.int .i64 a3) := (BXF.out.old AN68.out).cell 1
    have kF2_ : W4.cell? ⟨V57.heap.size, 2, none⟩ = some (.int .i64 x3) := (BXF.out.old AN68.out).cell 2
    have kF3_ : W4.cell? ⟨V57.heap.size, 3, none⟩ = some (.int .i64 y3) := (BXF.out.old AN68.out).cell 3
    have kF4_ : W4.cell? ⟨V57.heap.size, 4, none⟩ = some (.slice Af L3.length cf) := (BXF.out.old AN68.out).cell 4
    go_wp2_with fail
    clear kD0_ kD1_ kD2_ kD3_ kD4_ kF0_ kF1_ kF2_ kF3_ kF4_
    refine (rpl.rPlot s3 a3 x3 y3 L3 Ad Af L3.length cd cf W4 (by have := HL9.out; omega) (Rd.out.next AN65.out) (Rf.out.next AN67.out)).mono ?_
    rintro e V69 ⟨rfl, h70⟩
    have AN71 := Lib.hid (AN64.out.trans (h70.mono AN64.out.size))
    clear AN64
    have AN72 := Lib.hid (AN65.out.trans (h70.mono AN65.out.size))
    clear AN65
    have AN73 := Lib.hid (AN66.out.trans (h70.mono AN66.out.size))
    clear AN66
    have AN74 := Lib.hid (AN67.out.trans (h70.mono AN67.out.size))
    clear AN67
    have AN75 := Lib.hid (AN68.out.trans (h70.mono AN68.out.size))
    clear AN68
    clear h70
    clear ne3 QI QS
    clear AN72
    clear AN74
    clear Rd Rf HL9
    clear BXD AN73
    clear BXF AN75
    go_wp2_with fail
    refine (draws13.siteCounts A n c V69 hn (Bytes_below H.out AN71.out)).mono ?_
    rintro e V5 ⟨vl, n3, ys, rfl, ho3, hn3, h3⟩
    obtain ⟨A3, c3, rfl⟩ := own_sliceZ ho3
    have AN76 := Lib.hid (AN71.out.trans (h3.mono AN71.out.size))
    clear AN71
    have R3 := Lib.hid (RdZ.of_own ho3 (draws13.own_len ho3))
    clear ho3 h3
    have AN77 := Lib.hid (Below.refl V5.heap.size V5)
    have CI := Lib.hid (fun W h => pltl.siteCounts ys A3 n3 c3 W (by omega) h)
    have CS := Lib.hid (fun W h => plth.siteCounts ys A3 n3 c3 W (by omega) h)
    have CV := Lib.hid (fun W h => plti.isValidSightings ys A3 n3 c3 W (by omega) h)
    have FC := Lib.hid (fun (h : svB ys n3 = true) => cn_told h)
    have HC9 := Lib.hid (cnV_le ys n3)
    generalize svB ys n3 = o4 at *
    generalize cnV ys n3 = L4 at *
    have ne4 := bool_ne_self o4
    go_wp2_with fail
    refine (CI.out V5 (R3.out.next AN77.out)).mono ?_
    rintro e V78 ⟨vg, rfl, ho80, h79⟩
    obtain ⟨Ag, cg, rfl⟩ := own_sliceZ ho80
    have AN81 := Lib.hid (AN76.out.trans (h79.mono AN76.out.size))
    clear AN76
    have AN82 := Lib.hid (AN77.out.trans (h79.mono AN77.out.size))
    clear AN77
    have Rg := Lib.hid (intc.rd_of_own ho80 rfl)
    clear ho80 h79
    have AN83 := Lib.hid (Below.refl V78.heap.size V78)
    go_wp2_with fail
    refine (CS.out V78 (R3.out.next AN82.out)).mono ?_
    rintro e V84 ⟨vh, rfl, ho86, h85⟩
    obtain ⟨Ah, ch, rfl⟩ := own_sliceZ ho86
    have AN87 := Lib.hid (AN81.out.trans (h85.mono AN81.out.size))
    clear AN81
    have AN88 := Lib.hid (AN82.out.trans (h85.mono AN82.out.size))
    clear AN82
    have AN89 := Lib.hid (AN83.out.trans (h85.mono AN83.out.size))
    clear AN83
    have Rh := Lib.hid (intc.rd_of_own ho86 rfl)
    clear ho86 h85
    have AN90 := Lib.hid (Below.refl V84.heap.size V84)
    go_upto_region 19 with fail
    go_cut [133] from 109 to 133 (fun u wz => u = .bool false ∧ Below V84.heap.size V84 wz)
    case first =>
      have AN91 := Lib.hid (Below.refl V84.heap.size V84)
      have E1 := Lib.hid (rpl.rInts L4 Ag Ah L4.length cg ch V84 (by have := HC9.out; omega) (Rg.out.next AN89.out) (Rh.out.next AN90.out))
      go_wp2_with fail
      refine (E1.out).mono ?_
      rintro e wx ⟨rfl, j92, rfl⟩
      have AN94 := Lib.hid (aid.below_drewN AN87.out j92)
      clear AN87
      have AN95 := Lib.hid (aid.below_drewN AN88.out j92)
      clear AN88
      have AN96 := Lib.hid (aid.below_drewN AN89.out j92)
      clear AN89
      have AN97 := Lib.hid (aid.below_drewN AN90.out j92)
      clear AN90
      have AN98 := Lib.hid (aid.below_drewN AN91.out j92)
      clear AN91
      generalize V84.drewN j92 = V93 at *
      go_wp2_with fail
      refine (CV.out V93 (R3.out.next AN95.out)).mono ?_
      rintro e V99 ⟨rfl, h100⟩
      have AN101 := Lib.hid (AN94.out.trans (h100.mono AN94.out.size))
      clear AN94
      have AN102 := Lib.hid (AN95.out.trans (h100.mono AN95.out.size))
      clear AN95
      have AN103 := Lib.hid (AN96.out.trans (h100.mono AN96.out.size))
      clear AN96
      have AN104 := Lib.hid (AN97.out.trans (h100.mono AN97.out.size))
      clear AN97
      have AN105 := Lib.hid (AN98.out.trans (h100.mono AN98.out.size))
      clear AN98
      clear h100
      cases o4
      · go_wp2_with fail
        go_meet
        exact ⟨rfl, AN105.out⟩
      · skip
        obtain ⟨e1, e2⟩ := FC.out rfl
        have E2 := ptxm.rSum L4 Ag L4.length cg V99 (by have := HC9.out; omega) e2 (Rg.out.next AN103.out)
        rw [e1] at E2
        have E2 := Lib.hid E2
        have nn := int_ne_self (n3 : Int)
        clear e1 e2
        go_wp2_with fail
        refine E2.out.mono ?_
        rintro e wx ⟨rfl, rfl⟩
        go_wp2_with fail
        go_meet
        exact ⟨rfl, AN105.out⟩
    case rest =>
      obtain ⟨rfl, hbc⟩ := hcut
      have AN106 := Lib.hid (AN87.out.trans (hbc.mono AN87.out.size))
      clear AN87
      have AN107 := Lib.hid (AN88.out.trans (hbc.mono AN88.out.size))
      clear AN88
      have AN108 := Lib.hid (AN89.out.trans (hbc.mono AN89.out.size))
      clear AN89
      have AN109 := Lib.hid (AN90.out.trans (hbc.mono AN90.out.size))
      clear AN90
      clear hbc ne4
      clear AN107
      clear AN108
      clear AN109
      clear R3 Rg Rh CI CS CV FC HC9
      generalize wc = VC at *
      go_wp2_with fail
      refine (draws13.lonelySightings A n c VC hn (Bytes_below H.out AN106.out)).mono ?_
      rintro e V6 ⟨vl, n5, us, ww, r, rfl, ho5, hn5, hw5, hr5, h5⟩
      obtain ⟨A5, c5, rfl⟩ := own_sliceZ ho5
      have AN110 := Lib.hid (AN106.out.trans (h5.mono AN106.out.size))
      clear AN106
      have R5 := Lib.hid (RdZ.of_own ho5 (draws13.own_len ho5))
      clear ho5 h5
      have AN111 := Lib.hid (Below.refl V6.heap.size V6)
      clear hw5 hr5
      have CI := Lib.hid (fun W h => pltl.lonelySightings us ww r A5 n5 c5 W (by omega) h)
      have CS := Lib.hid (fun W h => plth.lonelySightings us ww r A5 n5 c5 W (by omega) h)
      have CG := Lib.hid (fun W h => pltl.groupSightings us ww r A5 n5 c5 W (by omega) h)
      have FL := Lib.hid (fun i (hi : i < (gsV us n5 ww r).length) => lone hi)
      have HLO := Lib.hid (loV_le us n5 ww r)
      have HGS := Lib.hid (gsV_le us n5 ww r)
      generalize asB us n5 ww r = o5 at *
      generalize loV us n5 ww r = L5 at *
      generalize gsV us n5 ww r = gs at *
      have ne5 := bool_ne_self o5
      go_wp2_with fail
      refine (CI.out V6 (R5.out.next AN111.out)).mono ?_
      rintro e V112 ⟨vi, rfl, ho114, h113⟩
      obtain ⟨Ai, ci, rfl⟩ := own_sliceZ ho114
      have AN115 := Lib.hid (AN110.out.trans (h113.mono AN110.out.size))
      clear AN110
      have AN116 := Lib.hid (AN111.out.trans (h113.mono AN111.out.size))
      clear AN111
      have Ri := Lib.hid (intc.rd_of_own ho114 rfl)
      clear ho114 h113
      have AN117 := Lib.hid (Below.refl V112.heap.size V112)
      go_wp2_with fail
      refine (CS.out V112 (R5.out.next AN116.out)).mono ?_
      rintro e V118 ⟨vj, rfl, ho120, h119⟩
      obtain ⟨Aj, cj, rfl⟩ := own_sliceZ ho120
      have AN121 := Lib.hid (AN115.out.trans (h119.mono AN115.out.size))
      clear AN115
      have AN122 := Lib.hid (AN116.out.trans (h119.mono AN116.out.size))
      clear AN116
      have AN123 := Lib.hid (AN117.out.trans (h119.mono AN117.out.size))
      clear AN117
      have Rj := Lib.hid (intc.rd_of_own ho120 rfl)
      clear ho120 h119
      have AN124 := Lib.hid (Below.refl V118.heap.size V118)
      have E3 := Lib.hid (rpl.rInts L5 Ai Aj L5.length ci cj V118 (by have := HLO.out; omega) (Ri.out.next AN123.out) (Rj.out.next AN124.out))
      go_wp2_with fail
      refine (E3.out).mono ?_
      rintro e wx ⟨rfl, j125, rfl⟩
      have AN127 := Lib.hid (aid.below_drewN AN121.out j125)
      clear AN121
      have AN128 := Lib.hid (aid.below_drewN AN122.out j125)
      clear AN122
      have AN129 := Lib.hid (aid.below_drewN AN123.out j125)
      clear AN123
      have AN130 := Lib.hid (aid.below_drewN AN124.out j125)
      clear AN124
      generalize V118.drewN j125 = V126 at *
      clear E3
      clear AN130
      clear Rj
      go_wp2_with fail
      refine (CG.out V126 (R5.out.next AN128.out)).mono ?_
      rintro e V131 ⟨vk, rfl, ho133, h132⟩
      obtain ⟨Ak, ck, rfl⟩ := own_sliceZ ho133
      have AN134 := Lib.hid (AN127.out.trans (h132.mono AN127.out.size))
      clear AN127
      have AN135 := Lib.hid (AN128.out.trans (h132.mono AN128.out.size))
      clear AN128
      have AN136 := Lib.hid (AN129.out.trans (h132.mono AN129.out.size))
      clear AN129
      have Rk := Lib.hid (intc.rd_of_own ho133 rfl)
      clear ho133 h132
      have AN137 := Lib.hid (Below.refl V131.heap.size V131)
      clear CI CS CG ne5
      clear AN135
      clear R5
      go_upto_block 0 with fail
      go_cut [29, 30, 31] from 170 to 201 (fun u v x wz => Below V131.heap.size V131 wz)
      case first =>
        go_wp2_with fail
        go_loopw [29, 30, 31] (fun iv _ _ wr => ∃ i : Nat, i ≤ gs.length ∧ iv = .int .i64 i ∧ Below V131.heap.size V131 wr) (fun iv _ _ _ => gs.length - (intOf iv).toNat)
        case atStart => exact ⟨0, Nat.zero_le _, rfl, Below.refl _ _⟩
        case round =>
          obtain ⟨i, hi, rfl, hb⟩ := hrel
          have hgl : (gs.length : Int) ≤ 21 := by have := HGS.out; omega
          by_cases hlt : i < gs.length
          · have hlt2 : (i : Int) < (gs.length : Int) := by omega
            obtain ⟨ho, x, hx, hlo⟩ := FL.out i hlt
            have HLO1 := Lib.hid hlo
            have HO := Lib.hid ho
            obtain ⟨ba, oa, rfl, lba, hca⟩ := Rk.out.2 (show 0 < gs.length by omega)
            have HCA := Lib.hid (fun (W : World) (hz : Below V131.heap.size V131 W) k z (hk : gs[k]? = some z) => (AN137.out.trans (hz.mono AN137.out.size)).cell (p := ⟨ba, oa + k, none⟩) lba |>.trans (hca k z hk))
            have HX := Lib.hid hx
            have HB := Lib.hid hb
            subst ho
            clear hlo hca hx hb
            generalize wr = Wi at *
            go_wp2_with fail
            go_loopw [30, 31] (fun cv kv wr => ∃ k : Nat, k ≤ gs.length ∧ kv = .int .i64 k ∧ cv = .int .i64 ((ptxm.ct gs x k : Nat) : Int) ∧ Below V131.heap.size V131 wr) (fun _ kv _ => gs.length - (intOf kv).toNat)
            case atStart => exact ⟨0, Nat.zero_le _, rfl, rfl, HB.out⟩
            case round =>
              obtain ⟨k, hk, rfl, rfl, hb⟩ := hrel
              clear HB
              have HB := Lib.hid hb
              by_cases hkl : k < gs.length
              · have hkl2 : (k : Int) < (gs.length : Int) := by omega
                obtain ⟨z, hz⟩ : ∃ z, gs[k]? = some z := ⟨_, List.getElem?_eq_getElem hkl⟩
                have q1 := HCA.out wr hb k z hz
                have q2 := HCA.out wr hb i x HX.out
                have HE := Lib.hid (show ptxm.ct gs x (k + 1) = ptxm.ct gs x k + if z = x then 1 else 0 by rw [ptxm.ct, at_get hz])
                have hcl := ptxm.ct_le gs x k
                clear hb hz
                generalize hc1 : ptxm.ct gs x k = C1 at *
                generalize hc2 : ptxm.ct gs x (k + 1) = C2 at *
                have HC2 := Lib.hid hc2
                clear hc1 hc2
                go_upto_region 34 with fail
                go_quiet (fail)
                have HB2 := Lib.hid (aid.below_drewN HB.out ‹Nat›)
                clear HB q1 q2
                by_cases hzx : z = x
                · have g0 : (z == x) = true := by rw [hzx]; simp
                  have HE2 := Lib.hid (show C2 = C1 + 1 by rw [HE.out, if_pos hzx])
                  clear hzx HE
                  go_wp2_with fail
                  go_roundw
                  case rel => exact ⟨k + 1, by omega, by go_num, by rw [HC2.out, HE2.out]; go_num, HB2.out⟩
                  case measure => simp [intOf]; omega
                · have g0 : (z == x) = false := eq_no hzx
                  have HE2 := Lib.hid (show C2 = C1 by rw [HE.out, if_neg hzx]; rfl)
                  clear hzx HE
                  go_wp2_with fail
                  go_roundw
                  case rel => exact ⟨k + 1, by omega, by go_num, by rw [HC2.out, HE2.out], HB2.out⟩
                  case measure => simp [intOf]; omega
              · obtain rfl : k = gs.length := by omega
                have RH := ptxm.rHas L5 (i : Int) Ai L5.length ci wr (by have := HLO.out; omega) (Ri.out.next (AN136.out.trans (hb.mono AN136.out.size)))
                rw [HLO1.out] at RH
                have RH := Lib.hid RH
                have nn := bool_ne_self (((ptxm.ct gs x gs.length : Nat) : Int) == 1)
                clear hb hkl
                generalize ptxm.ct gs x gs.length = C at *
                generalize hbq : ((C : Int) == 1) = bq at *
                go_wp2_with fail
                refine RH.out.mono ?_
                rintro e wx ⟨rfl, rfl⟩
                go_wp2_with fail
                go_roundw
                case rel => exact ⟨i + 1, by omega, by go_num, HB.out⟩
                case measure => simp [intOf]; omega
          · obtain rfl : i = gs.length := by omega
            have HB := Lib.hid hb
            clear hb
            go_wp2_with fail
            go_meet
            exact HB.out
      case rest =>
        have hbc := hcut
        have AN138 := Lib.hid (AN134.out.trans (hbc.mono AN134.out.size))
        clear AN134
        have AN139 := Lib.hid (AN136.out.trans (hbc.mono AN136.out.size))
        clear AN136
        have AN140 := Lib.hid (AN137.out.trans (hbc.mono AN137.out.size))
        clear AN137
        clear hbc
        have eq1 := bool_eq_self o5
        go_wp2_with fail
        go_ret
        exact ⟨rfl, AN138.out⟩

theorem own : ownKnob Tryd.prog.godebug = none := by kernel_rfl
theorem laidOut : laidOutB Tryd.prog = true := by kernel_rfl

theorem gTab : Tryd.prog.globalNamed "internal/strconv.uint64pow10" = some 1 := by kernel_rfl
theorem gTabType : (Tryd.prog.globals[1]?).map (·.type) = some 117 := by kernel_rfl
theorem cellsTab : Tryd.prog.cellsOf 117 = 20 := by kernel_rfl
theorem cellsU : Tryd.prog.cellsOf 62 = 1 := by kernel_rfl
theorem table {W : World} (h : laidMet Tryd.prog Rows.fnPlotTextsRow.laid W) : Lib.TabIs Tryd.prog W "internal/strconv.uint64pow10" .u64 Lib.pow10Tab :=
  Lib.tabIs_of_head (rest := []) gTab gTabType Tryd.underlying117 Tryd.underlying62 cellsU cellsTab (laidMet.tail (laidMet.tail h))


set_option maxRecDepth 100000 in
theorem contract (H : Type) (enc : TypeId × Value → H) (W : World) (base : Nat) (args : Array Value) (ds gs : List (DataW H)) (before : List MemPlace)
    (hval : ∀ (j : Nat) t v, Tryd.f3.params[j]? = some t → args[j]? = some v → Value.okWide Tryd.prog W .any base t v)
    (hW : DataW.Whole enc Tryd.prog Tryd.f3.params.toList Rows.fnPlotTextsSpec.vars false W args.toList ds gs before) (hL : laidMetH Tryd.prog Rows.fnPlotTextsRow.laid W) (hsh : W.ShapedOpen Tryd.prog) :
    Calls Tryd.prog 3 args W fun e W' => ∃ v, e = .returned v ∧ Rows.fnPlotTextsSpec.post enc Tryd.prog Tryd.f3 false true false false W args v W' := by
  have hW' := hW
  obtain ⟨p, q, hA0, hV, rfl, hfz, hnd⟩ := hW
  have hA : DataW.TrodAll enc Tryd.prog W 0 (fun _ => true) true Tryd.f3.params.toList args.toList ds p := hA0
  rw [Tryd.params3] at hA hval
  obtain ⟨v0, vs0, d0, ds0, p0, q0, hargs, rfl, rfl, h0, r0⟩ := trodAll_cons hA
  obtain ⟨rfl, rfl, rfl⟩ := trodAll_nil r0
  obtain rfl : args = #[v0] := by cases args; simp_all
  obtain ⟨rfl, rfl⟩ := trodVars_none hV
  obtain ⟨a0, len0, cap0, rfl⟩ := okWide_slice Tryd.underlying22 (hval 0 22 v0 rfl rfl)
  have k0 := h0
  have lt0 : ∀ x ∈ p0, x.block < W.heap.size := by obtain ⟨m, hm⟩ := k0; exact DataW.trod_lt m _ _ _ hm
  obtain ⟨z0, w0⟩ : ∃ zs, IsRow .u8 W a0 len0 cap0 zs := by
    obtain ⟨fuel, hf⟩ := h0
    rcases open_ints Tryd.underlying22 Tryd.underlying5 (by kernel_rfl) hf with ⟨hcs, _⟩ | ⟨x, l, c, zs, hcs, _, hl, hm, hz, _, hcell, hwz⟩
    · simp [Value.cells] at hcs
      obtain ⟨rfl, rfl, rfl⟩ := hcs
      exact ⟨[], .inl ⟨rfl, rfl, rfl, rfl⟩⟩
    · simp [Value.cells] at hcs
      obtain ⟨rfl, rfl, rfl⟩ := hcs
      exact ⟨zs, .inr ⟨_, rfl, hl, hm, by simpa using hz, hcell, hwz⟩⟩
  clear hA0
  refine (walk a0 len0 cap0 z0 W w0 (table hL) (Tryd.laysM145.s1_3 W hsh)).mono fun e W' ⟨he, bel⟩ => ?_
  subst he
  exact ⟨_, rfl, _, _, _, [], _, [], hW', trodAll_mk1 (shut_bool Tryd.underlying4 _), (trodAll_cons_mk (Below.trod laidOut (by kernel_rfl) (of_decide_eq_true (by kernel_rfl)) k0 bel lt0) trodAll_mk0), rfl, bel.frame _, fun h => by cases h⟩

noncomputable def laidWorld (os : Os) : World :=
  { World.holding Tryd.prog os ⟨#[], #[], []⟩ with heap := ((((World.holding Tryd.prog os ⟨#[], #[], []⟩).heap.modify 1 fun
      | .cells _ t frozen => .cells #[.int .u64 1, .int .u64 10, .int .u64 100, .int .u64 1000, .int .u64 10000, .int .u64 100000, .int .u64 1000000, .int .u64 10000000, .int .u64 100000000, .int .u64 1000000000, .int .u64 10000000000, .int .u64 100000000000, .int .u64 1000000000000, .int .u64 10000000000000, .int .u64 100000000000000, .int .u64 1000000000000000, .int .u64 10000000000000000, .int .u64 100000000000000000, .int .u64 1000000000000000000, .int .u64 10000000000000000000] t frozen
      | o => o).modify 2 fun
      | .cells _ t frozen => .cells #[.int .u8 0, .int .u8 1, .int .u8 28, .int .u8 2, .int .u8 29, .int .u8 14, .int .u8 24, .int .u8 3, .int .u8 30, .int .u8 22, .int .u8 20, .int .u8 15, .int .u8 25, .int .u8 17, .int .u8 4, .int .u8 8, .int .u8 31, .int .u8 27, .int .u8 13, .int .u8 23, .int .u8 21, .int .u8 19, .int .u8 16, .int .u8 7, .int .u8 26, .int .u8 12, .int .u8 18, .int .u8 6, .int .u8 11, .int .u8 5, .int .u8 10, .int .u8 9] t frozen
      | o => o).modify 3 fun
      | .cells _ t frozen => .cells #[.int .u8 0, .int .u8 1, .int .u8 56, .int .u8 2, .int .u8 57, .int .u8 49, .int .u8 28, .int .u8 3, .int .u8 61, .int .u8 58, .int .u8 42, .int .u8 50, .int .u8 38, .int .u8 29, .int .u8 17, .int .u8 4, .int .u8 62, .int .u8 47, .int .u8 59, .int .u8 36, .int .u8 45, .int .u8 43, .int .u8 51, .int .u8 22, .int .u8 53, .int .u8 39, .int .u8 33, .int .u8 30, .int .u8 24, .int .u8 18, .int .u8 12, .int .u8 5, .int .u8 63, .int .u8 55, .int .u8 48, .int .u8 27, .int .u8 60, .int .u8 41, .int .u8 37, .int .u8 16, .int .u8 46, .int .u8 35, .int .u8 44, .int .u8 21, .int .u8 52, .int .u8 32, .int .u8 23, .int .u8 11, .int .u8 54, .int .u8 26, .int .u8 40, .int .u8 15, .int .u8 34, .int .u8 20, .int .u8 31, .int .u8 10, .int .u8 25, .int .u8 14, .int .u8 19, .int .u8 9, .int .u8 13, .int .u8 8, .int .u8 7, .int .u8 6] t frozen
      | o => o) }
theorem laid_met (os : Os) : laidMet Tryd.prog Rows.fnPlotTextsRow.laid ((laidWorld os).forCall (fun _ _ => 0) ⟨#[], #[.slice none 0 0], []⟩).memory :=
  laidMet_of_run' 8 (by kernel_rfl) (by kernel_rfl)
theorem reads (os : Os) {H : Type} (enc : TypeId × Value → H) : ∃ places, DataW.whole enc Tryd.prog ((laidWorld os).forCall (fun _ _ => 0) ⟨#[], #[.slice none 0 0], []⟩).memory Tryd.f3.params.toList Rows.fnPlotTextsSpec.vars false (#[.slice none 0 0] : Array Value).toList 8 = some ([.nil], [], places) :=
  ⟨[], by kernel_rfl⟩

set_option maxRecDepth 100000 in
theorem lifted (os : Os) (started : os.Started) (H : Type) (enc : TypeId × Value → H) (F : Stop.Interp) :
    ReturnsInHanded {} Tryd.checked os 3 .any ((OpenSpec.ofChange Rows.fnPlotTextsSpec).preRow enc Tryd.prog Tryd.f3 Rows.fnPlotTextsRow.domain false Rows.fnPlotTextsRow.laid) (((OpenSpec.ofChange Rows.fnPlotTextsSpec).at F).post enc Tryd.prog Tryd.f3 false true false false) := by
  obtain ⟨places, hx⟩ := reads os enc
  refine returnsInHanded_of_row (C := Tryd.checked) (s := OpenSpec.ofChange Rows.fnPlotTextsSpec) own started (by kernel_rfl) Tryd.func3
    (witness_row_at (enc := enc) (C := Tryd.checked) false (laidWorld os) #[.slice none 0 0] rfl (by kernel_rfl) (by kernel_rfl) (by kernel_rfl)
      (OpenSpec.preRow_of_cond 8 hx (by kernel_rfl) (fun k hk => by cases hk) (by kernel_rfl) (laid_met os))) ?_
  intro W base args ds gs before hval hW _ _ _ hL hsh _
  exact contract H enc W base args ds gs before hval hW hL hsh

theorem said : Rows.FnPlotTextsSaid :=
  OpenClaim.holds_of_cond 3 Tryd.f3 rfl rfl rfl rfl rfl rfl rfl ⟨rfl, rfl, rfl, rfl, rfl⟩ rfl rfl rfl rfl rfl (by kernel_rfl) Tryd.func3 (by kernel_rfl)
    (of_decide_eq_true (by kernel_rfl)) (by unfold Func.isWrapper; first | (rw [if_pos (by decide +kernel)]; kernel_rfl) | (rw [if_neg (by decide +kernel)]; exact ⟨rfl, rfl⟩))
    (fun os started H enc _ F => by rw [OpenClaim.pre_eq_preRow]; exact lifted os started H enc F)

theorem plain (f : FuncId) (fn : Func) (hf : Tryd.pinned.checked.prog.funcNamed "loop.example/g00875/laws.FnPlotTexts" = some f) (hfn : Tryd.pinned.checked.prog.funcs[f]? = some fn) :
    false = Tryd.pinned.checked.prog.looks [] ∧ ∀ (j : Nat) t, fn.params[j]? = some t → Tryd.pinned.checked.prog.wantsStandIn t = false := by
  obtain rfl : f = 3 := Option.some.inj ((show Tryd.prog.funcNamed "loop.example/g00875/laws.FnPlotTexts" = some 3 by kernel_rfl).symm.trans hf) |>.symm
  obtain rfl : fn = Tryd.f3 := (Option.some.inj (Tryd.func3.symm.trans hfn)).symm
  refine ⟨by kernel_rfl, fun j t ht => ?_⟩
  rw [Tryd.params3] at ht
  have hm := Array.mem_of_getElem? ht
  simp at hm
  obtain rfl := hm
  exact (show Tryd.prog.wantsStandIn 22 = false by kernel_rfl)

theorem proved : Rows.FnPlotTextsCardSaid :=
  Claim7.holds_tied_plain_at .later [] _ _ _ _ said (fun _ h => by cases h) (by kernel_rfl) (fun _ h => by cases h) fnPlotTexts_row_tie rfl ⟨rfl, rfl⟩ (by kernel_rfl) rfl plain (by kernel_rfl)
#print axioms proved
end Go.Proofs.YtdjcbfeilkepmaaDoor.fnPlotTexts
