/- For every code of at most 65536 bytes (and trivially for a longer one) the law FnLevels returns true: free levels, nearest levels and right levels are those of the model; exactly the free levels have no conflicts; the nearest level is free and right, and no free level that is right is nearer. No condition. -/
import Derived.Test.YtglonedhoenkpaaRows
import Derived.Test.YtglonedhoenkpaaDrawV18
import Derived.Test.YtglonedhoenkpaaLvlM
import Derived.Test.YtglonedhoenkpaaLvlD
import Derived.Test.YtglonedhoenkpaaLvlU
import Derived.Test.YtglonedhoenkpaaLvlF
import Derived.Test.YtglonedhoenkpaaLvlV
import Derived.Test.YtglonedhoenkpaaLvlA
import Derived.Test.YtglonedhoenkpaaLvlS
import Derived.Test.YtglonedhoenkpaaRPl
import Derived.Test.YtglonedhoenkpaaLvlE
import Derived.Test.YtglonedhoenkpaaIntC
import Derived.Test.YtglonedhoenkpaaCode
import Derived.WalkKit
import Derived.ProofKit
import Derived.OpenShut
import Derived.ShutString
import Derived.ChangeOld
import Derived.Below
import Derived.BigQuiet
import Derived.Deep.QuietTactic
import Derived.Deep.RegionHeld3
import Derived.Deep.CutRange
import Derived.Deep.CutBlock
namespace Go.Proofs.Ytglonedhoenkpaa.fnLevels
open Go.ChangeShapes Go.WideShapes Go.ChangeAt Go.RowKit
open Go.ChangeMaps (open_string shut_string)
open Go.Proofs.Ytglonedhoenkpaa.code_ Go.Proofs.Ytglonedhoenkpaa.cur Go.Proofs.Ytglonedhoenkpaa.ats Go.Proofs.Ytglonedhoenkpaa.lst Go.Proofs.Ytglonedhoenkpaa.ints Go.Proofs.Ytglonedhoenkpaa.lvl Go.Proofs.Ytglonedhoenkpaa.lvlm Go.Proofs.Ytglonedhoenkpaa.drawu18
set_option linter.unusedVariables false

theorem bool_ne_self (b : Bool) : (b != b) = false := by simp
theorem int_ne_self (b : Int) : (b != b) = false := by simp
theorem bool_eq_self (b : Bool) : (b == b) = true := by simp
theorem int_eq_self (b : Int) : (b == b) = true := by simp
theorem own_cap {w : World} {B e s n : Nat} {v : Value} {xs : List Value} (h : w.ownsRow B e s v n xs) : ∃ A c, v = .slice A n c ∧ n ≤ c := by
  rcases h.2 with ⟨rfl, h0⟩ | ⟨g, cap, cur, rfl, _, _, hle, _⟩
  · exact ⟨_, _, by rw [h0], by omega⟩
  · exact ⟨_, _, rfl, hle⟩
theorem own_len1 {w : World} {B e n : Nat} {v : Value} {xs : List Int} (h : w.ownsRow B e 1 v n (cellsI xs)) : xs.length = n := by have := h.1; unfold cellsI at this; simpa using this
theorem own_len5 {w : World} {B e n : Nat} {v : Value} {xs : List Int} (h : w.ownsRow B e 5 v n (cellsI xs)) : xs.length = n * 5 := by have := h.1; unfold cellsI at this; simpa using this
theorem same_regrown {P : Program} {f : FuncId} {args : Array Value} {w : World} {d : Nat} {os : Array Obj} {v : Value}
    (h : Calls P f args (Sort.grow (redrawn w d) os) fun e w' => e = .returned v ∧ Sort.grow (redrawn w d) os = w') : Calls P f args (Sort.grow (redrawn w d) os) fun e w'' => e = .returned v ∧ ∃ p : Regrown, w'' = Sort.grow (redrawn w p.d) p.os :=
  Calls.regrown_of (h.mono fun e w' h => ⟨h.1, by rw [← h.2]; exact Below.refl _ _⟩)
def hb (xs : List Int) (x : Int) : Nat → Bool
  | 0 => false
  | k + 1 => hb xs x k || (xs.getD k 0 == x)
theorem hb_mem {xs : List Int} {x : Int} : ∀ k, k ≤ xs.length → (hb xs x k = true ↔ x ∈ xs.take k)
  | 0, _ => by simp [hb]
  | k + 1, hk => by
    have e : xs[k]? = some (xs.getD k 0) := by rw [List.getD_eq_getElem?_getD, List.getElem?_eq_getElem (by omega)]; rfl
    rw [hb, Bool.or_eq_true, hb_mem k (by omega), List.take_add_one, e, beq_iff_eq]
    simp [eq_comm]
theorem rHas (xs : List Int) (x : Int) (A : Option Addr) (n c : Nat) (w : World) (hn : n ≤ 1048576) (h1 : RdI w w.heap.size A n xs) :
    Calls Try.prog 33 #[.slice A n c, .int .i64 x] w fun e w' => e = .returned (.bool (hb xs x n)) ∧ w = w' := by
  have HT := Lib.hid (fun k (hk : k < n) (h : hb xs x (k + 1) = true) => show hb xs x n = true from by
    have : ∀ m, k + 1 ≤ m → hb xs x m = true := by
      intro m hm
      induction m with
      | zero => omega
      | succ m ih =>
        rcases Nat.lt_or_ge m (k + 1) with h2 | h2
        · obtain rfl : m = k := by omega
          exact h
        · rw [hb, ih h2]; rfl
    exact this n hk)
  go_enter Try.func33, Try.ntmps33
  go_wp2_with fail
  go_loop [5] (fun i => ∃ k : Nat, k ≤ n ∧ i = .int .i64 k ∧ hb xs x k = false) (fun i => n - (intOf i).toNat)
  case atStart => exact ⟨0, Nat.zero_le _, rfl, rfl⟩
  case round =>
    obtain ⟨k, hk, rfl, hf⟩ := hrel
    by_cases hlt : k < n
    · obtain ⟨b1, o1, y, rfl, _, hxx, e1⟩ := h1.at_ hlt
      have hlt2 : (k : Int) < (n : Int) := by omega
      have HE := Lib.hid (show hb xs x (k + 1) = (y == x) by rw [hb, hf, List.getD_eq_getElem?_getD, hxx]; rfl)
      have HTk := Lib.hid (HT.out k hlt)
      clear h1 hxx hf HT
      by_cases hyx : y = x
      · have g : (y == x) = true := by rw [hyx]; simp
        have HR := Lib.hid (HTk.out (by rw [HE.out, g]))
        clear hyx HE HTk
        go_wp2_with fail
        go_ret
        exact ⟨by rw [HR.out]; rfl, rfl⟩
      · have g : (y == x) = false := by simpa using hyx
        have HF := Lib.hid (show hb xs x (k + 1) = false by rw [HE.out, g])
        clear hyx HE HTk
        go_wp2_with fail
        go_round
        case rel => exact ⟨k + 1, by omega, by go_num, HF.out⟩
        case measure => simp [intOf]; omega
    · obtain rfl : k = n := by omega
      have HF := Lib.hid hf
      clear h1 hf HT
      go_wp2_with fail
      go_ret
      exact ⟨by rw [HF.out]; rfl, rfl⟩
theorem size (x : Int) (w : World) (h0 : -8000000 ≤ x) (h1 : x ≤ 8000000) :
    Calls Try.prog 38 #[.int .i64 x] w fun e w' => e = .returned (.int .i64 (x.natAbs : Int)) ∧ w = w' := by
  by_cases h : x < 0
  · rw [show (x.natAbs : Int) = -x by omega]
    go_enter Try.func38, Try.ntmps38
    go_wp2_with fail
    go_ret
    exact ⟨rfl, rfl⟩
  · rw [show (x.natAbs : Int) = x by omega]
    go_enter Try.func38, Try.ntmps38
    go_wp2_with fail
    go_ret
    exact ⟨rfl, rfl⟩
theorem far_abs (a b : Int) : far a b = ((a - b).natAbs : Int) := by unfold far; split <;> omega
theorem hb_all {xs : List Int} {x : Int} : hb xs x xs.length = true ↔ x ∈ xs := by
  have := hb_mem (xs := xs) (x := x) xs.length (Nat.le_refl _)
  rwa [List.take_length] at this
/-- A level is among the free ones if and only if it has no conflicts. -/
theorem hb_lc {zs : List Int} {n : Nat} {a f t : Int} (h : frB zs n a f t = true) {j : Nat} (hj : j < 41) : hb (frV zs n a f t) (lev j) (frV zs n a f t).length = decide ((lcV zs n a (lev j) (lev j) f t).length = 0) := by
  rw [frV_yes h, Bool.eq_iff_iff, hb_all, lc_none h hj, decide_eq_true_eq]
theorem nr_level {zs : List Int} {n : Nat} {x y a f t l : Int} (h : nrO zs n x y a f t l = true) : (10 ≤ l ∧ l ≤ 410) ∧ (10 ≤ nrV zs n x y a f t l ∧ nrV zs n x y a f t l ≤ 410) ∧ ∀ i, i < (frV zs n a f t).length → 10 ≤ (frV zs n a f t).getD i 0 ∧ (frV zs n a f t).getD i 0 ≤ 410 := by
  have h1 : 0 < nrV zs n x y a f t l := of_decide_eq_true h
  have hB : nrB zs n x y a f t l = true := by
    cases hq : nrB zs n x y a f t l
    · rw [nrV_no hq] at h1; omega
    · rfl
  obtain ⟨hF, -, hL⟩ := nrB_yes hB
  have hL := lvB_yes hL
  have hmem := (nr_told h).2.1
  rw [frV_yes hF] at hmem ⊢
  refine ⟨⟨hL.1, hL.2.1⟩, ?_, fun i hi => ?_⟩
  · obtain ⟨j, hj, e, _⟩ := frT_mem.1 hmem
    rw [e]
    have := lvB_yes (lev_ok (j := j) (by omega)); omega
  · have := lvB_yes (frT_at (zs := zs) (n := n) (a := a) (f := f) (t := t) (Nat.le_refl 41) hi); omega

set_option maxRecDepth 100000 in
set_option maxHeartbeats 16000000 in
theorem walk (A : Option Addr) (n c : Nat) (z : List Int) (w : World) (w0 : IsRow .u8 w A n c z) :
    Calls Try.prog 4 #[.slice A n c] w fun e w' => e = .returned (.bool true) ∧ Below w.heap.size w w' := by
  obtain ⟨hby, hnc, -⟩ := bytes_of w0
  clear w0
  have hv := Lib.hid (fun w => rBig A n c w)
  by_cases hbig : (65536 : Int) < (n : Int)
  · clear hby
    go_enter Try.func4, Try.ntmps4
    go_wp2_with fail
    refine (hv.out _).mono ?_
    rintro e w1 ⟨rfl, rfl⟩
    go_wp2_with fail
    go_ret
    exact ⟨rfl, Below.refl _ _⟩
  have hd : decide ((65536 : Int) < (n : Int)) = false := by simpa using hbig
  have hn : n ≤ 65536 := by omega
  have H := Lib.hid hby
  clear hby hbig hnc
  go_enter Try.func4, Try.ntmps4
  go_wp2_with fail
  refine (hv.out _).mono ?_
  rintro e wx ⟨rfl, rfl⟩
  clear hd hv
  have HB0 := Lib.hid (Below.refl w.heap.size w)
  go_wp2_with fail
  refine (drawu18.freeLevels A n c w hn (Bytes_below H.out HB0.out)).mono ?_
  rintro e V1 ⟨v1, k1, zs, a1, f1, t1, rfl, ho1, hk1, h2⟩
  obtain ⟨A1, c1, rfl, hc1⟩ := own_cap ho1
  have HB3 := Lib.hid (HB0.out.trans (h2.mono HB0.out.size))
  clear HB0
  clear h2
  have RX4 := Lib.hid (RdZ.of_own ho1 (own_len5 ho1))
  clear ho1
  have CI := Lib.hid (fun W h1 => lvld.freeLevels zs a1 f1 t1 A1 k1 c1 W hc1 (by omega) h1)
  have CS := Lib.hid (fun W h1 => lvlu.freeLevels zs a1 f1 t1 A1 k1 c1 W hc1 (by omega) h1)
  have LC := Lib.hid (fun j (hj : j < 41) (hF : frB zs k1 a1 f1 t1 = true) W h1 => (show Calls Try.prog 19 #[.slice A1 k1 c1, .agg #[.int .i64 a1, .int .i64 (lev j), .int .i64 (lev j), .int .i64 f1, .int .i64 t1]] W (fun e w' => ∃ v, e = .returned (.tuple #[v, .bool true]) ∧ w'.ownsRow W.heap.size 3 1 v (lcV zs k1 a1 (lev j) (lev j) f1 t1).length (cellsI (lcV zs k1 a1 (lev j) (lev j) f1 t1)) ∧ Below W.heap.size W w') from by rw [← hF, ← frB_lc zs k1 a1 f1 t1 hj]; exact lvld.levelConflicts zs a1 (lev j) (lev j) f1 t1 A1 k1 c1 W hc1 (by omega) h1))
  have F1 := Lib.hid (fun (h : frB zs k1 a1 f1 t1 = true) j (hj : j < 41) => hb_lc h hj)
  have hN := frV_le zs k1 a1 f1 t1
  generalize frV zs k1 a1 f1 t1 = L1 at *
  generalize hOO : frB zs k1 a1 f1 t1 = O1 at *
  clear hOO
  obtain ⟨N1, hN1⟩ : ∃ N1, L1.length = N1 := ⟨_, rfl⟩
  have HN1 := Lib.hid hN1
  rw [hN1] at CI CS F1 hN
  clear hN1
  have n1 := bool_ne_self O1
  go_wp2_with fail
  refine (CI.out V1 RX4.out).mono ?_
  rintro e V5 ⟨vI, rfl, ho7, h6⟩
  obtain ⟨AI, cI, rfl, hcI⟩ := own_cap ho7
  have HB8 := Lib.hid (HB3.out.trans (h6.mono HB3.out.size))
  clear HB3
  have RX9 := Lib.hid (RX4.out.next h6)
  clear RX4
  clear h6
  have RX10 := Lib.hid (intc.rd_of_own ho7 HN1.out)
  clear ho7
  go_wp2_with fail
  refine (CS.out V5 RX9.out).mono ?_
  rintro e V11 ⟨vS, rfl, ho13, h12⟩
  obtain ⟨AS, cS, rfl, hcS⟩ := own_cap ho13
  have HB14 := Lib.hid (HB8.out.trans (h12.mono HB8.out.size))
  clear HB8
  have RX15 := Lib.hid (RX9.out.next h12)
  clear RX9
  have RX16 := Lib.hid (RX10.out.next h12)
  clear RX10
  clear h12
  have RX17 := Lib.hid (intc.rd_of_own ho13 HN1.out)
  clear ho13
  clear CI CS
  go_wp2_with fail
  refine (rpl.rInts L1 AI AS N1 cI cS V11 (by omega) RX16.out RX17.out).mono ?_
  rintro e wx ⟨rfl, j18, rfl⟩
  have h19 := aid.below_drewN (Below.refl V11.heap.size V11) j18
  generalize V11.drewN j18 = V20 at *
  have HB21 := Lib.hid (HB14.out.trans (h19.mono HB14.out.size))
  clear HB14
  have RX22 := Lib.hid (RX15.out.next h19)
  clear RX15
  have RX23 := Lib.hid (RX16.out.next h19)
  clear RX16
  have RX24 := Lib.hid (RX17.out.next h19)
  clear RX17
  clear h19
  clear RX24
  have RD1 := Lib.hid RX22.out
  have RDI := Lib.hid RX23.out
  go_upto_block 0 with fail
  go_cut [11, 12, 13] from 71 to 104 (fun p11 p12 p13 wz => Below V20.heap.size V20 wz)
  case first =>
    cases O1
    · go_wp2_with fail
      go_loopw [11] (fun i wr => i = .int .i64 10 ∧ Below V20.heap.size V20 wr) (fun i _ => 0)
      case atStart => exact ⟨rfl, Below.refl _ _⟩
      case round =>
        obtain ⟨rfl, hb⟩ := hrel
        have HB := Lib.hid hb
        clear hb
        go_wp2_with fail
        go_meet
        exact HB.out
    · have F1' := Lib.hid (fun j (hj : j < 41) => F1.out (by trivial) j hj)
      have LC' := Lib.hid (fun j (hj : j < 41) W h1 => LC.out j hj (by trivial) W h1)
      clear F1 LC
      go_wp2_with fail
      go_loopw [11] (fun i wr => ∃ j : Nat, j ≤ 41 ∧ i = .int .i64 (lev j) ∧ Below V20.heap.size V20 wr) (fun i _ => (430 - intOf i).toNat)
      case atStart => exact ⟨0, by omega, rfl, Below.refl _ _⟩
      case round =>
        obtain ⟨j, hj, rfl, hb⟩ := hrel
        have HB := Lib.hid hb
        have HL := Lib.hid (show lev (j + 1) = lev j + 10 by unfold lev; omega)
        by_cases hlt : j < 41
        · have hl1 : lev j ≤ 410 := by unfold lev; omega
          have hl2 : 10 ≤ lev j := by unfold lev; omega
          have K1 := LC'.out j hlt wr (RD1.out.next hb)
          have F := F1'.out j hlt
          have FL := fun W => lvla.isFlightLevel (lev j) W
          rw [lev_ok hlt] at FL
          have FL := Lib.hid FL
          generalize lcV zs k1 a1 (lev j) (lev j) f1 t1 = L2 at *
          obtain ⟨N2, hN2⟩ : ∃ N2, L2.length = N2 := ⟨_, rfl⟩
          rw [hN2] at K1 F
          have K1 := Lib.hid K1
          have RH := Lib.hid (fun W h => rHas L1 (lev j) AI N1 cI W (by omega) h)
          rw [F] at RH
          have HLT := Lib.hid hlt
          clear hb hlt hN2 F
          generalize lev j = q at *
          go_wp2_with fail
          refine K1.out.mono ?_
          rintro e W1 ⟨v9, rfl, ho9, h1⟩
          obtain ⟨A9, c9, rfl, -⟩ := own_cap ho9
          have HB1 := Lib.hid (HB.out.trans (h1.mono HB.out.size))
          clear ho9 h1 K1
          go_wp2_with fail
          refine (FL.out W1).mono ?_
          rintro e w' ⟨rfl, rfl⟩
          have e9 : (((N2 : Int) == 0) : Bool) = decide (N2 = 0) := by
            by_cases h0 : N2 = 0
            · rw [h0]; rfl
            · rw [decide_eq_false h0]; exact beq_eq_false_iff_ne.mpr (by omega)
          have e9b : ((N2 == 0) : Bool) = decide (N2 = 0) := rfl
          have n9 := bool_ne_self (decide (N2 = 0))
          generalize decide (N2 = 0) = d9 at *
          go_wp2_with fail
          refine (RH.out W1 (RDI.out.next HB1.out)).mono ?_
          rintro e w' ⟨rfl, rfl⟩
          go_wp2_with fail
          go_roundw
          case rel => exact ⟨j + 1, by have := HLT.out; omega, by rw [HL.out], HB1.out⟩
          case measure => simp [intOf]; omega
        · obtain rfl : j = 41 := by omega
          have hl1 : ¬ lev 41 ≤ 410 := by unfold lev; omega
          clear hb hlt
          generalize lev 41 = q at *
          go_wp2_with fail
          go_meet
          exact HB.out
  case rest =>
    have hbc := hcut
    clear RD1 RDI
    clear RX22
    clear RX23
    have HB25 := Lib.hid (HB21.out.trans (hbc.mono HB21.out.size))
    clear HB21
    clear hbc
    clear F1 LC n1
    generalize wc = VA at *
    go_wp2_with fail
    refine (drawv18.nearestLevel A n c VA hn (Bytes_below H.out HB25.out)).mono ?_
    rintro e V26 ⟨v1, k2, ys, x2, y2, a2, f2, t2, l2, rfl, ho1, hk2, h27⟩
    obtain ⟨A1, c1, rfl, hc1⟩ := own_cap ho1
    have HB28 := Lib.hid (HB25.out.trans (h27.mono HB25.out.size))
    clear HB25
    clear h27
    have RX29 := Lib.hid (RdZ.of_own ho1 (own_len5 ho1))
    clear ho1
    have RX30 := Lib.hid (RX29.out.next ((Below.refl V26.heap.size V26).alloc (Nat.le_refl _) (.cells #[.int .i64 x2, .int .i64 y2] 50)))
    clear RX29
    have BX31 := Lib.hid (lvle.at_next 50 #[.int .i64 x2, .int .i64 y2] HB28.out)
    clear HB28
    have HBn := Lib.hid BX31.out.1
    have HB32 := HBn
    clear HBn
    go_upto_region 15 with fail
    generalize (V26.alloc (.cells #[.int .i64 x2, .int .i64 y2] 50)) = WY at *
    have CI := Lib.hid (fun W h1 => lvlf.nearestLevel ys x2 y2 a2 f2 t2 l2 A1 k2 c1 W hc1 (by omega) h1)
    have CS := Lib.hid (fun W h1 => lvlv.nearestLevel ys x2 y2 a2 f2 t2 l2 A1 k2 c1 W hc1 (by omega) h1)
    have CF := Lib.hid (fun W h1 => lvld.freeLevels ys a2 f2 t2 A1 k2 c1 W hc1 (by omega) h1)
    have CR := Lib.hid (fun z W => lvla.isRightLevel x2 y2 z W)
    have F1 := Lib.hid (fun (h : nrO ys k2 x2 y2 a2 f2 t2 l2 = true) => nr_told h)
    have F2 := Lib.hid (fun (h : nrO ys k2 x2 y2 a2 f2 t2 l2 = true) => nr_level h)
    have F3 := Lib.hid (fun (h : nrO ys k2 x2 y2 a2 f2 t2 l2 = true) => hb_all.2 (nr_told h).2.1)
    have hN := frV_le ys k2 a2 f2 t2
    generalize nrV ys k2 x2 y2 a2 f2 t2 l2 = nr at *
    generalize nrO ys k2 x2 y2 a2 f2 t2 l2 = O2 at *
    generalize frV ys k2 a2 f2 t2 = L3 at *
    generalize hOO : frB ys k2 a2 f2 t2 = O3 at *
    clear hOO
    obtain ⟨N3, hN3⟩ : ∃ N3, L3.length = N3 := ⟨_, rfl⟩
    have HN3 := Lib.hid hN3
    rw [hN3] at CF F1 F2 F3 hN
    clear hN3
    have n1 := bool_ne_self O2
    have n2 := int_ne_self nr
    have kv0_ : WY.cell? ⟨V26.heap.size, 0, none⟩ = some (.int .i64 x2) := BX31.out.cell 0
    have kv1_ : WY.cell? ⟨V26.heap.size, 1, none⟩ = some (.int .i64 y2) := BX31.out.cell 1
    go_wp2_with fail
    clear kv0_ kv1_
    refine (CI.out WY RX30.out).mono ?_
    rintro e V33 ⟨rfl, h34⟩
    have HB35 := Lib.hid (HB32.out.trans (h34.mono HB32.out.size))
    clear HB32
    have BX36 := Lib.hid (BX31.out.old h34)
    clear BX31
    have RX37 := Lib.hid (RX30.out.next h34)
    clear RX30
    clear h34
    have kv0_ : V33.cell? ⟨V26.heap.size, 0, none⟩ = some (.int .i64 x2) := BX36.out.cell 0
    have kv1_ : V33.cell? ⟨V26.heap.size, 1, none⟩ = some (.int .i64 y2) := BX36.out.cell 1
    go_wp2_with fail
    clear kv0_ kv1_
    refine (CS.out V33 RX37.out).mono ?_
    rintro e V38 ⟨rfl, h39⟩
    have HB40 := Lib.hid (HB35.out.trans (h39.mono HB35.out.size))
    clear HB35
    have BX41 := Lib.hid (BX36.out.old h39)
    clear BX36
    have RX42 := Lib.hid (RX37.out.next h39)
    clear RX37
    clear h39
    clear CI CS
    go_upto_if 142 with fail
    go_cut [24, 25, 26, 27, 28, 29, 30] from 143 to 206 (fun p24 p25 p26 p27 p28 p29 p30 wz => Below V38.heap.size V38 wz)
    case first =>
      cases O2
      · go_wp2_with fail
        go_meet
        exact Below.refl _ _
      · obtain ⟨rfl, -, r1, r2, r3⟩ := F1.out (by trivial)
        obtain ⟨⟨m1, m2⟩, ⟨m3, m4⟩, m5⟩ := F2.out (by trivial)
        have f3 := F3.out (by trivial)
        have K1 := Lib.hid (CF.out V38 RX42.out)
        have K2 := fun W => CR.out nr W
        rw [r1, r2] at K2
        have K2 := Lib.hid K2
        have RH := fun AF cF W h => rHas L3 nr AF N3 cF W (by omega) h
        rw [f3] at RH
        have RH := Lib.hid RH
        have F4 := Lib.hid (fun i (hi : i < N3) => r3 i hi)
        have F5 := Lib.hid (fun i (hi : i < N3) => m5 i hi)
        have SV := Lib.hid BX41.out
        clear r1 r2 r3 m5 f3 F1 F2 F3 CF n1 n2
        go_wp2_with fail
        refine K1.out.mono ?_
        rintro e W1 ⟨v9, rfl, ho9, h1⟩
        obtain ⟨A9, c9, rfl, -⟩ := own_cap ho9
        have R9 := Lib.hid (intc.rd_of_own ho9 HN3.out)
        have HB1 := Lib.hid h1
        have S1 := Lib.hid (SV.out.old h1)
        clear ho9 h1 K1
        have kv0_ : W1.cell? ⟨V26.heap.size, 0, none⟩ = some (.int .i64 x2) := S1.out.cell 0
        have kv1_ : W1.cell? ⟨V26.heap.size, 1, none⟩ = some (.int .i64 y2) := S1.out.cell 1
        go_wp2_with fail
        clear kv0_ kv1_
        refine (K2.out W1).mono ?_
        rintro e W2 ⟨rfl, h2⟩
        have HB2 := Lib.hid (HB1.out.trans (h2.mono HB1.out.size))
        have S2 := Lib.hid (S1.out.old h2)
        have R2 := Lib.hid (R9.out.next h2)
        clear h2 K2
        go_wp2_with fail
        refine (RH.out A9 c9 W2 R2.out).mono ?_
        rintro e w' ⟨rfl, rfl⟩
        go_wp2_with fail
        go_loopw [28] (fun i wr => ∃ k : Nat, k ≤ N3 ∧ i = .int .i64 k ∧ Below W2.heap.size W2 wr) (fun i _ => N3 - (intOf i).toNat)
        case atStart => exact ⟨0, Nat.zero_le _, rfl, Below.refl _ _⟩
        case round =>
          obtain ⟨k, hk, rfl, hb⟩ := hrel
          have HB := Lib.hid hb
          by_cases hlt : k < N3
          · obtain ⟨b1, o1, z, rfl, l1, hz, pz⟩ := (R2.out.below hb (Nat.le_refl _)).at_ hlt
            have hzd : L3.getD k 0 = z := by rw [List.getD_eq_getElem?_getD, hz]; rfl
            have hlt2 : (k : Int) < (N3 : Int) := by omega
            obtain ⟨q1, q2⟩ := F4.out k hlt
            obtain ⟨q3, q4⟩ := F5.out k hlt
            rw [hzd] at q1 q2 q3 q4
            have HLT := Lib.hid hlt
            have D1 := fun W d0 os => Calls.regrown_of (CR.out z (Sort.grow (redrawn W d0) os))
            rw [q1] at D1
            have D1 := Lib.hid D1
            have SB := Lib.hid (S2.out.old hb)
            have PZ := Lib.hid pz
            have LBW := Lib.hid (Nat.lt_of_lt_of_le l1 hb.size)
            have e1 : IntKind.i64.wrap (z - l2) = z - l2 := IntWalk.i64_in _ (by omega)
            have e2 : IntKind.i64.wrap (nr - l2) = nr - l2 := IntWalk.i64_in _ (by omega)
            have Z1 := fun W => size (z - l2) W (by omega) (by omega)
            have Z2 := fun W => size (nr - l2) W (by omega) (by omega)
            rw [← far_abs] at Z1 Z2
            have Z1 := Lib.hid Z1
            have Z2 := Lib.hid Z2
            have HQ := Lib.hid q2
            clear hb hz hzd q1 q2 q3 q4 hlt
            generalize lvl.rtV x2 y2 z = r at *
            generalize far z l2 = g1 at *
            generalize far nr l2 = g2 at *
            generalize hd1 : z - l2 = d1 at *
            generalize hd2 : nr - l2 = d2 at *
            have kv0_ : wr.cell? ⟨V26.heap.size, 0, none⟩ = some (.int .i64 x2) := SB.out.cell 0
            have kv1_ : wr.cell? ⟨V26.heap.size, 1, none⟩ = some (.int .i64 y2) := SB.out.cell 1
            go_upto_region 27 with fail
            have kv0_' := fun d0 os => cell_regrown kv0_ d0 os
            have kv1_' := fun d0 os => cell_regrown kv1_ d0 os
            have pz' := fun d0 os => cell_regrown pz d0 os
            clear kv0_ kv1_ pz
            refine wp_region_quiet_below (by kernel_rfl) (by kernel_rfl) ?_
            repeat (
              with_reducible refine wpQuiet_step (fun K hK => ?_)
              go_simp
              first
                | (refine hK _ ?_; clear hK K)
                | (apply Exists.intro
                   refine ⟨fun _ => ?_, hK _ ?_⟩
                   (first
                     | (go_at_call 37; with_reducible exact D1.out _ _ _))
                   clear hK K))
            with_reducible refine wpQuiet_nil ?_
            intro _ hw'
            obtain ⟨⟨dq, osq⟩, hw''⟩ := hw'
            subst hw''
            have hbl := (below_regrown wr dq osq)
            clear kv0_' kv1_' pz'
            generalize Sort.grow (redrawn wr dq) osq = w5 at *
            have HB5 := Lib.hid (HB.out.trans (hbl.mono HB.out.size))
            have pz : w5.cell? ⟨b1, o1 + k, none⟩ = some (.int .i64 z) := (hbl.cell (p := ⟨b1, o1 + k, none⟩) LBW.out).trans PZ.out
            clear hbl
            cases r
            · clear HQ
              go_wp2_with fail
              go_roundw
              case rel => exact ⟨k + 1, by have := HLT.out; omega, by go_num, HB5.out⟩
              case measure => have := HLT.out; simp [intOf]; omega
            · have g9 : decide (g1 < g2) = false := decide_eq_false (by have := HQ.out (by trivial); omega)
              clear HQ
              go_wp2_with fail
              refine (Z1.out w5).mono ?_
              rintro e w' ⟨rfl, rfl⟩
              go_wp2_with fail
              refine (Z2.out w5).mono ?_
              rintro e w' ⟨rfl, rfl⟩
              go_wp2_with fail
              go_roundw
              case rel => exact ⟨k + 1, by have := HLT.out; omega, by go_num, HB5.out⟩
              case measure => have := HLT.out; simp [intOf]; omega
          · obtain rfl : k = N3 := by omega
            clear hb hlt
            go_wp2_with fail
            go_meet
            exact HB2.out.trans (HB.out.mono HB2.out.size)
    case rest =>
      have hbc := hcut
      clear BX41
      clear RX42
      have HB43 := Lib.hid (HB40.out.trans (hbc.mono HB40.out.size))
      clear HB40
      clear hbc
      clear F1 F2 F3 CF CR n1 n2
      generalize wc = VB at *
      go_wp2_with fail
      refine (drawv18.isRightLevel A n c VB hn (Bytes_below H.out HB43.out)).mono ?_
      rintro e V44 ⟨x3, y3, l3, rfl, h45⟩
      have HB46 := Lib.hid (HB43.out.trans (h45.mono HB43.out.size))
      clear HB43
      clear h45
      have BX47 := Lib.hid (lvle.at_next 50 #[.int .i64 x3, .int .i64 y3] HB46.out)
      clear HB46
      have HBn := Lib.hid BX47.out.1
      have HB48 := HBn
      clear HBn
      go_upto_region 31 with fail
      generalize (V44.alloc (.cells #[.int .i64 x3, .int .i64 y3] 50)) = WZ at *
      have CI := Lib.hid (fun W => lvla.isRightLevel x3 y3 l3 W)
      have CS := Lib.hid (fun W => lvls.isRightLevel x3 y3 l3 W)
      have GI := Lib.hid (fun W => lvla.isFlightLevel l3 W)
      have GS := Lib.hid (fun W => lvls.isFlightLevel l3 W)
      generalize rtV x3 y3 l3 = u1 at *
      generalize rtO x3 y3 l3 = u2 at *
      generalize lvB l3 = u3 at *
      have n1 := bool_eq_self u1
      have n2 := bool_eq_self u2
      have n3 := bool_eq_self u3
      have ku0_ : WZ.cell? ⟨V44.heap.size, 0, none⟩ = some (.int .i64 x3) := BX47.out.cell 0
      have ku1_ : WZ.cell? ⟨V44.heap.size, 1, none⟩ = some (.int .i64 y3) := BX47.out.cell 1
      go_wp2_with fail
      clear ku0_ ku1_
      refine (CI.out WZ).mono ?_
      rintro e V49 ⟨rfl, h50⟩
      have HB51 := Lib.hid (HB48.out.trans (h50.mono HB48.out.size))
      clear HB48
      have BX52 := Lib.hid (BX47.out.old h50)
      clear BX47
      clear h50
      have ku0_ : V49.cell? ⟨V44.heap.size, 0, none⟩ = some (.int .i64 x3) := BX52.out.cell 0
      have ku1_ : V49.cell? ⟨V44.heap.size, 1, none⟩ = some (.int .i64 y3) := BX52.out.cell 1
      go_wp2_with fail
      clear ku0_ ku1_
      refine (CS.out V49).mono ?_
      rintro e V53 ⟨rfl, h54⟩
      have HB55 := Lib.hid (HB51.out.trans (h54.mono HB51.out.size))
      clear HB51
      have BX56 := Lib.hid (BX52.out.old h54)
      clear BX52
      clear h54
      clear BX56
      go_wp2_with fail
      refine (GI.out V53).mono ?_
      rintro e w' ⟨rfl, rfl⟩
      go_wp2_with fail
      refine (GS.out V53).mono ?_
      rintro e w' ⟨rfl, rfl⟩
      go_wp2_with fail
      go_ret
      exact ⟨rfl, HB55.out⟩

theorem own : ownKnob Try.prog.godebug = none := by kernel_rfl
theorem laidOut : laidOutB Try.prog = true := by kernel_rfl

set_option maxRecDepth 100000 in
theorem lifted (os : Os) (started : os.Started) (H : Type) (enc : TypeId × Value → H) :
    ReturnsInHanded {} Try.checked os 4 .any (Rows.fnLevelsSpec.pre6 enc Try.prog Try.f4 Rows.fnLevelsRow.domain false) (Rows.fnLevelsSpec.post enc Try.prog Try.f4 false true false false) := by
  refine returnsInHanded_of_change (C := Try.checked) own started (by kernel_rfl) Try.func4
    (ChangeSpec.witness6 (enc := enc) (C := Try.checked) false ⟨#[], #[.slice none 0 0], []⟩ 8 (by kernel_rfl) (by kernel_rfl) (by kernel_rfl) (by kernel_rfl)) ?_
  intro W base args ds gs before hval0 hW hcnd _
  have hval : ∀ (j : Nat) t v, Try.f4.params[j]? = some t → args[j]? = some v → Value.okWide Try.prog W .any base t v := hval0
  have hW' := hW
  obtain ⟨p, q, hA0, hV, rfl, hfz, hnd⟩ := hW
  have hA : DataW.TrodAll enc Try.prog W 0 (fun _ => true) true Try.f4.params.toList args.toList ds p := hA0
  rw [Try.params4] at hA hval
  obtain ⟨v0, vs0, d0, ds0, p0, q0, hargs, rfl, rfl, h0, r0⟩ := trodAll_cons hA
  obtain ⟨rfl, rfl, rfl⟩ := trodAll_nil r0
  obtain rfl : args = #[v0] := by cases args; simp_all
  obtain ⟨rfl, rfl⟩ := trodVars_none hV
  obtain ⟨a0, len0, cap0, rfl⟩ := okWide_slice Try.underlying22 (hval 0 22 v0 rfl rfl)
  have k0 := h0
  have lt0 : ∀ x ∈ p0, x.block < W.heap.size := by obtain ⟨m, hm⟩ := k0; exact DataW.trod_lt m _ _ _ hm
  obtain ⟨z0, w0⟩ : ∃ zs, IsRow .u8 W a0 len0 cap0 zs := by
    obtain ⟨fuel, hf⟩ := h0
    rcases open_ints Try.underlying22 Try.underlying5 (by kernel_rfl) hf with ⟨hcs, _⟩ | ⟨x, l, c, zs, hcs, _, hl, hm, hz, _, hcell, hwz⟩
    · simp [Value.cells] at hcs
      obtain ⟨rfl, rfl, rfl⟩ := hcs
      exact ⟨[], .inl ⟨rfl, rfl, rfl, rfl⟩⟩
    · simp [Value.cells] at hcs
      obtain ⟨rfl, rfl, rfl⟩ := hcs
      exact ⟨zs, .inr ⟨_, rfl, hl, hm, by simpa using hz, hcell, hwz⟩⟩
  clear hA0 hval0
  refine (walk a0 len0 cap0 z0 W w0).mono fun e W' ⟨he, bel⟩ => ?_
  subst he
  exact ⟨_, rfl, _, _, _, [], _, [], hW', trodAll_mk1 (shut_bool Try.underlying4 _), (trodAll_cons_mk (Below.trod laidOut (by kernel_rfl) (of_decide_eq_true (by kernel_rfl)) k0 bel lt0) trodAll_mk0), rfl, bel.frame _, fun h => by cases h⟩

theorem over : Rows.fnLevelsRow.holds Try.pinned (OpenSpec.ofChange Rows.fnLevelsSpec) :=
  OpenClaim.holds_of_wide 4 Try.f4 rfl rfl rfl rfl rfl rfl rfl ⟨rfl, rfl, rfl, rfl, rfl⟩ rfl rfl rfl rfl rfl (by kernel_rfl) Try.func4 (by kernel_rfl)
    (of_decide_eq_true (by kernel_rfl)) (by unfold Func.isWrapper; first | (rw [if_pos (by decide +kernel)]; kernel_rfl) | (rw [if_neg (by decide +kernel)]; exact ⟨rfl, rfl⟩))
    (fun os started H enc _ => lifted os started H enc)

theorem proved : Rows.FnLevelsSaid :=
  over
#print axioms proved
end Go.Proofs.Ytglonedhoenkpaa.fnLevels
