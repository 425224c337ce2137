/- impl's lists of corners and sides of chapter 17: areAll, slices.Contains and areDifferent at places; sidesOf. -/
import Derived.Test.YtkndfklbonkbiaaSctA
import Derived.Test.YtkndfklbonkbiaaPosX
import Derived.Deep.RegionHeld3
import Derived.Deep.CutRange
namespace Go.Proofs.Ytkndfklbonkbiaa.sctb
open Go.RowKit Go.Proofs.Ytkndfklbonkbiaa.ints Go.Proofs.Ytkndfklbonkbiaa.lst Go.Proofs.Ytkndfklbonkbiaa.in_ Go.Proofs.Ytkndfklbonkbiaa.ats Go.Proofs.Ytkndfklbonkbiaa.pos Go.Proofs.Ytkndfklbonkbiaa.sct Go.Proofs.Ytkndfklbonkbiaa.sctt Go.Proofs.Ytkndfklbonkbiaa.sctv Go.Proofs.Ytkndfklbonkbiaa.scti Go.Proofs.Ytkndfklbonkbiaa.sctj

theorem cells2 {w : World} {B n k : Nat} {A : Option Addr} {zs : List Int} (h : RdZ 2 w B A n zs) (hk : k < n) :
    ∃ b o, A = some ⟨b, o, none⟩ ∧ b < B ∧ w.cell? ⟨b, o + k * 2, none⟩ = some (.int .i64 (fld 2 zs k 0)) ∧ w.cell? ⟨b, o + k * 2 + 1, none⟩ = some (.int .i64 (fld 2 zs k 1)) := by
  obtain ⟨b, o, e, hb, hc⟩ := h.at_ hk
  exact ⟨b, o, e, hb, hc 0 (by omega), hc 1 (by omega)⟩
theorem pl_cut {X Y : Nat → Int} {n k : Nat} (h : plA X Y k = false) (hk : k ≤ n) : plA X Y n = false := by
  cases hq : plA X Y n
  · rfl
  · have : ∀ j, j ≤ n → plA X Y j = true := by
      intro j
      induction j with
      | zero => intro _; rfl
      | succ j ih => intro hj; rw [plA, ih (by omega), plA_at hq (by omega)]; rfl
    rw [this k hk] at h; cases h
set_option maxRecDepth 100000 in
set_option maxHeartbeats 1000000 in
theorem areAllPlaces (zs : List Int) (A : Option Addr) (n c : Nat) (w : World) (hn : n ≤ 1048577) (h1 : RdZ 2 w w.heap.size A n zs) :
    Calls Try.prog 56 #[.func (.func 49) #[] #[], .slice A n c] w fun e w' => e = .returned (.bool (plA (cX zs) (cY zs) n)) ∧ Below w.heap.size w w' := by
  go_enter Try.func56, Try.ntmps56
  go_wp2
  go_loopw [9] (fun i wr => ∃ k : Nat, k ≤ n ∧ i = .int .i64 k ∧ Below w.heap.size w wr ∧ plA (cX zs) (cY zs) k = true) (fun i _ => n - (intOf i).toNat)
  case atStart => exact ⟨0, Nat.zero_le _, rfl, Below.refl _ _, rfl⟩
  case round =>
    obtain ⟨k, hk, rfl, hb, hon⟩ := hrel
    by_cases hlt : k < n
    · obtain ⟨b1, o1, rfl, l1, p0, p1⟩ := cells2 (h1.below hb (Nat.le_refl _)) hlt
      have hlt2 : (k : Int) < (n : Int) := by omega
      have X1 := Lib.hid (fun w => posj.isValidPlace (fld 2 zs k 0) (fld 2 zs k 1) w)
      have HS := Lib.hid (show plA (cX zs) (cY zs) (k + 1) = (plA (cX zs) (cY zs) k && pB (fld 2 zs k 0) (fld 2 zs k 1)) from rfl)
      rw [hon, Bool.true_and] at HS
      have HX := Lib.hid (fun (h : plA (cX zs) (cY zs) (k + 1) = false) => pl_cut h (show k + 1 ≤ n by omega))
      have HB := Lib.hid (hb.alloc hb.size (.cells #[.int .i64 (fld 2 zs k 0), .int .i64 (fld 2 zs k 1)] 31))
      clear h1 hb hon
      generalize pB (fld 2 zs k 0) (fld 2 zs k 1) = pb at *
      generalize fld 2 zs k 0 = u0 at *
      generalize fld 2 zs k 1 = u1 at *
      go_wp2_with fail
      refine (X1.out _).mono ?_
      rintro e w2 ⟨rfl, hb2⟩
      have B2 := Lib.hid (HB.out.trans (hb2.mono HB.out.size))
      clear hb2 HB
      cases pb
      · have HF := Lib.hid (HX.out HS.out)
        go_wp2_with fail
        go_ret
        exact ⟨by rw [HF.out]; rfl, B2.out⟩
      · have HT := Lib.hid HS.out
        clear HS HX
        go_wp2_with fail
        go_roundw
        case rel => exact ⟨k + 1, by omega, by go_num, B2.out, HT.out⟩
        case measure => simp [intOf]; omega
    · obtain rfl : k = n := by omega
      have HB := Lib.hid hb
      have HT := Lib.hid hon
      clear hb hon h1
      go_wp2_with fail
      go_ret
      exact ⟨by rw [HT.out]; rfl, HB.out⟩

/-- Is (x, y) one of the first k sites? -/
def hasB (zs : List Int) (x y : Int) : Nat → Bool
  | 0 => false
  | k + 1 => hasB zs x y k || decide (x = fld 2 zs k 0 ∧ y = fld 2 zs k 1)
theorem hasB_new (zs : List Int) (i k : Nat) : nwA (cX zs) (cY zs) i k = !hasB zs (fld 2 zs i 0) (fld 2 zs i 1) k := by
  induction k with
  | zero => rfl
  | succ k ih =>
    rw [nwA, hasB, ih, Bool.not_or]
    congr 2
    rw [decide_eq_decide]
    exact ⟨fun h => ⟨h.1.symm, h.2.symm⟩, fun h => ⟨h.1.symm, h.2.symm⟩⟩
theorem hasB_at {zs : List Int} {x y : Int} {n k : Nat} (hk : k < n) (h : x = fld 2 zs k 0 ∧ y = fld 2 zs k 1) : hasB zs x y n = true := by
  induction n with
  | zero => omega
  | succ n ih =>
    rw [hasB]
    by_cases e : k = n
    · subst e; rw [decide_eq_true h]; simp
    · rw [ih (by omega)]; rfl

set_option maxRecDepth 100000 in
set_option maxHeartbeats 1000000 in
theorem indexS (zs : List Int) (x y : Int) (A : Option Addr) (n c : Nat) (w : World) (hn : n ≤ 1048577) (h1 : RdZ 2 w w.heap.size A n zs) :
    Calls Try.prog 128 #[.slice A n c, .agg #[.int .i64 x, .int .i64 y]] w fun e w' => (∃ j : Int, e = .returned (.int .i64 j) ∧ decide (0 ≤ j) = hasB zs x y n) ∧ Below w.heap.size w w' := by
  have S0 := Lib.hid (newS 31 #[.int .i64 x, .int .i64 y] w)
  go_enter Try.func128, Try.ntmps128
  go_wp2
  generalize w.alloc (.cells #[.int .i64 x, .int .i64 y] 31) = W at *
  go_loopw [8] (fun i wr => ∃ k : Nat, k ≤ n ∧ i = .int .i64 k ∧ (∃ d, wr = W.drewN d) ∧ hasB zs x y k = false) (fun i _ => n - (intOf i).toNat)
  case atStart => exact ⟨0, Nat.zero_le _, rfl, ⟨0, rfl⟩, rfl⟩
  case round =>
    obtain ⟨k, hk, rfl, ⟨d, rfl⟩, hno⟩ := hrel
    by_cases hlt : k < n
    · obtain ⟨b1, o1, rfl, l1, p0, p1⟩ := cells2 (h1.below S0.out.1 (Nat.le_refl _)) hlt
      have hlt2 : (k : Int) < (n : Int) := by omega
      have c0 := S0.out.cell 0
      have c1 := S0.out.cell 1
      have HS := Lib.hid (show hasB zs x y (k + 1) = (hasB zs x y k || decide (x = fld 2 zs k 0 ∧ y = fld 2 zs k 1)) from rfl)
      rw [hno] at HS
      have HY := Lib.hid (fun (h : x = fld 2 zs k 0 ∧ y = fld 2 zs k 1) => hasB_at hlt h)
      clear h1 hno
      generalize fld 2 zs k 0 = u at *
      generalize fld 2 zs k 1 = v at *
      by_cases ex : x = u
      · have ex1 : (x == u) = true := by simpa using ex
        by_cases ey : y = v
        · have ey1 : (y == v) = true := by simpa using ey
          have HE := Lib.hid (HY.out ⟨ex, ey⟩)
          have HK := Lib.hid (show decide ((0 : Int) ≤ (k : Int)) = true from decide_eq_true (by omega))
          clear HY HS ex ey
          go_wp2_with fail
          go_quiet (fail)
          go_wp2_with fail
          go_ret
          exact ⟨⟨k, rfl, by rw [HE.out, HK.out]⟩, aid.below_drewN (aid.below_drewN S0.out.1 _) _⟩
        · have ey1 : (y == v) = false := by simpa using ey
          have HE := Lib.hid (show hasB zs x y (k + 1) = false by rw [HS.out, decide_eq_false (fun h => ey h.2)]; rfl)
          clear HY HS ex ey
          go_wp2_with fail
          go_quiet (fail)
          go_wp2_with fail
          go_roundw
          case rel => exact ⟨k + 1, by omega, by go_num, ⟨_, by first | rfl | rw [World.drewN_drewN]⟩, HE.out⟩
          case measure => simp [intOf]; omega
      · have ex1 : (x == u) = false := by simpa using ex
        have HE := Lib.hid (show hasB zs x y (k + 1) = false by rw [HS.out, decide_eq_false (fun h => ex h.1)]; rfl)
        clear HY HS ex
        go_wp2_with fail
        go_quiet (fail)
        go_wp2_with fail
        go_roundw
        case rel => exact ⟨k + 1, by omega, by go_num, ⟨_, by first | rfl | rw [World.drewN_drewN]⟩, HE.out⟩
        case measure => simp [intOf]; omega
    · obtain rfl : k = n := by omega
      have HO := Lib.hid hno
      clear h1 hno
      go_wp2_with fail
      go_ret
      exact ⟨⟨-1, rfl, by rw [HO.out]; rfl⟩, aid.below_drewN S0.out.1 _⟩

theorem containsS (zs : List Int) (x y : Int) (A : Option Addr) (n c : Nat) (w : World) (hn : n ≤ 1048577) (h1 : RdZ 2 w w.heap.size A n zs) :
    Calls Try.prog 99 #[.slice A n c, .agg #[.int .i64 x, .int .i64 y]] w fun e w' => e = .returned (.bool (hasB zs x y n)) ∧ Below w.heap.size w w' := by
  have S0 := Lib.hid (newS 31 #[.int .i64 x, .int .i64 y] w)
  have H := Lib.hid (fun w' (hb : Below w.heap.size w w') => indexS zs x y A n c w' hn (h1.next hb))
  clear h1
  generalize hasB zs x y n = p at *
  go_enter Try.func99, Try.ntmps99
  go_wp2_with fail
  generalize w.alloc (.cells #[.int .i64 x, .int .i64 y] 31) = W at *
  refine (H.out W S0.out.1).mono ?_
  rintro e w1 ⟨⟨j, rfl, hj⟩, hb⟩
  have T := Lib.hid (S0.out.old hb)
  cases p
  all_goals
    go_wp2_with fail
    go_ret
    exact ⟨rfl, T.out.1⟩

theorem fld_take {zs : List Int} {k j i : Nat} (hj : j < k) (hi : i < 2) : fld 2 (zs.take (k * 2)) j i = fld 2 zs j i := by
  unfold fld
  rw [List.getD_eq_getElem?_getD, List.getD_eq_getElem?_getD, List.getElem?_take, if_pos (by omega)]
theorem rd_take {w : World} {B n k : Nat} {A : Option Addr} {zs : List Int} (h : RdZ 2 w B A n zs) (hk : k ≤ n) : RdZ 2 w B A k (zs.take (k * 2)) :=
  ⟨by rw [List.length_take, h.1]; omega, fun h0 => by
    obtain ⟨b, o, e, hb, hc⟩ := h.2 (by omega)
    refine ⟨b, o, e, hb, fun j x hx => hc j x ?_⟩
    have hj := (List.getElem?_eq_some_iff.1 hx).1
    rw [List.length_take] at hj
    rwa [List.getElem?_take, if_pos (by omega)] at hx⟩
theorem hasB_take {zs : List Int} {x y : Int} {n k : Nat} (hk : k ≤ n) : hasB (zs.take (n * 2)) x y k = hasB zs x y k := by
  induction k with
  | zero => rfl
  | succ k ih => rw [hasB, hasB, ih (by omega), fld_take (by omega) (by omega), fld_take (by omega) (by omega)]
set_option maxRecDepth 100000 in
set_option maxHeartbeats 2000000 in
theorem areDifferent (zs : List Int) (A : Option Addr) (n c : Nat) (w : World) (hc : n ≤ c) (hn : n ≤ 1048577) (h1 : RdZ 2 w w.heap.size A n zs) :
    Calls Try.prog 57 #[.slice A n c] w fun e w' => e = .returned (.bool (dfA (cX zs) (cY zs) n)) ∧ Below w.heap.size w w' := by
  have HR := Lib.hid h1
  clear h1
  go_enter Try.func57, Try.ntmps57
  go_wp2_with fail
  go_loopw [7] (fun i wr => ∃ k : Nat, k ≤ n ∧ i = .int .i64 k ∧ Below w.heap.size w wr ∧ dfA (cX zs) (cY zs) k = true) (fun i _ => n - (intOf i).toNat)
  case atStart => exact ⟨0, Nat.zero_le _, rfl, Below.refl _ _, rfl⟩
  case round =>
    obtain ⟨k, hk, rfl, hb, hdif⟩ := hrel
    by_cases hlt : k < n
    · obtain ⟨b1', o1, rfl, l1, p0, p1⟩ := cells2 (HR.out.below hb (Nat.le_refl _)) hlt
      have hlt2 : (k : Int) < (n : Int) := by omega
      have hkc : (k : Int) ≤ (c : Int) := by omega
      have HRk := Lib.hid (show RdZ 2 wr wr.heap.size (some ⟨b1', o1, none⟩) k (zs.take (k * 2)) from rd_take (HR.out.next hb) hk)
      have S0 := Lib.hid (newS 31 #[.int .i64 (fld 2 zs k 0), .int .i64 (fld 2 zs k 1)] wr)
      have HB := Lib.hid hb
      have HE := Lib.hid (hasB_new zs k k)
      have HT := Lib.hid (show hasB (zs.take (k * 2)) (fld 2 zs k 0) (fld 2 zs k 1) k = _ from hasB_take (Nat.le_refl _))
      have HNo := Lib.hid (fun (h : nwA (cX zs) (cY zs) k k = false) => dfA_no hlt h)
      have HYe := Lib.hid (show dfA (cX zs) (cY zs) (k + 1) = (dfA (cX zs) (cY zs) k && nwA (cX zs) (cY zs) k k) from rfl)
      rw [hdif] at HYe
      clear hb hdif
      generalize fld 2 zs k 0 = x at *
      generalize fld 2 zs k 1 = y at *
      go_upto_region 4 with fail
      have HCb := Lib.hid (S0.out.1)
      generalize wr.alloc (.cells #[.int .i64 x, .int .i64 y] 31) = V at *
      have CS := Lib.hid (show ∀ WZ : World, Below V.heap.size V WZ → WZ.cell? ⟨wr.heap.size, 0, none⟩ = some (.int .i64 x) ∧ WZ.cell? ⟨wr.heap.size, 1, none⟩ = some (.int .i64 y) from fun WZ hz => And.intro (posx.at_cell (S0.out.old hz) 0 (.int .i64 x) rfl) (posx.at_cell (S0.out.old hz) 1 (.int .i64 y) rfl))
      clear p0 p1
      have KC := Lib.hid (fun (w' : World) (hb : Below V.heap.size V w') => containsS (zs.take (k * 2)) x y (some ⟨b1', o1, none⟩) k c w' (by omega) (HRk.out.next (HCb.out.trans (hb.mono HCb.out.size))))
      rw [HT.out] at KC
      go_region_held3 (fun w' => w'.cell? ⟨wr.heap.size, 0, none⟩ = some (.int .i64 x) ∧ w'.cell? ⟨wr.heap.size, 1, none⟩ = some (.int .i64 y)) (first
        | exact CS.out _ (Below.refl V.heap.size V).drew
        | exact CS.out _ (by assumption)
        | go_keep) (first
        | (go_at_call 99; (with_reducible refine (KC.out _ (by first | exact (Below.refl V.heap.size V).drew | assumption)).mono ?_); rintro e w' ⟨rfl, hb⟩
           have hbl := posx.bl_next (V := V) (by first | exact (Below.refl V.heap.size V).drew | assumption) hb
           clear hb))
      all_goals (
        have BX := Lib.hid (HB.out.trans ((HCb.out.trans ((by assumption : Below V.heap.size V _).mono HCb.out.size)).mono HB.out.size))
        rw [HE.out] at HYe HNo
        generalize hasB zs x y k = p at *
        cases p
        · have HZ := Lib.hid (show dfA (cX zs) (cY zs) (k + 1) = true from HYe.out)
          clear HYe HNo HE HT KC CS
          go_wp2_with fail
          go_roundw
          case rel => exact ⟨k + 1, by omega, by go_num, BX.out, HZ.out⟩
          case measure => simp [intOf]; omega
        · have HZ := Lib.hid (HNo.out rfl)
          clear HYe HNo HE HT KC CS
          go_wp2_with fail
          go_ret
          exact ⟨by rw [HZ.out]; rfl, BX.out⟩)
    · obtain rfl : k = n := by omega
      have HZ := Lib.hid hdif
      have HB := Lib.hid hb
      clear hb hdif HR
      go_wp2_with fail
      go_ret
      exact ⟨by rw [HZ.out]; rfl, HB.out⟩

/-- The first k sides, flat. -/
def sdL (X Y : Nat → Int) (n : Nat) : Nat → List Int
  | 0 => []
  | k + 1 => sdL X Y n k ++ [X k, Y k, X ((k + 1) % n), Y ((k + 1) % n)]
theorem sdL_length (X Y : Nat → Int) (n : Nat) : ∀ k, (sdL X Y n k).length = k * 4
  | 0 => rfl
  | k + 1 => by rw [sdL, List.length_append, sdL_length X Y n k]; show _ + 4 = _; omega
theorem sd_at (X Y : Nat → Int) (n : Nat) : ∀ {m k c : Nat}, k < m → c < 4 → fld 4 (sdL X Y n m) k c = [X k, Y k, X ((k + 1) % n), Y ((k + 1) % n)].getD c 0
  | 0, _, _, h, _ => by omega
  | m + 1, k, c, h, hc => by
    have hl := sdL_length X Y n m
    by_cases e : k = m
    · subst e
      unfold fld
      rw [sdL, List.getD_eq_getElem?_getD, List.getElem?_append_right (by omega), hl, show k * 4 + c - k * 4 = c by omega, ← List.getD_eq_getElem?_getD]
    · have ih := sd_at X Y n (m := m) (k := k) (c := c) (by omega) hc
      rw [← ih]
      unfold fld
      rw [sdL, List.getD_eq_getElem?_getD, List.getElem?_append_left (by omega), ← List.getD_eq_getElem?_getD]
/-- The four cells of side k. -/
theorem cells4 {w : World} {B n k : Nat} {A : Option Addr} {X Y : Nat → Int} (h : RdZ 4 w B A n (sdL X Y n n)) (hk : k < n) :
    ∃ b o, A = some ⟨b, o, none⟩ ∧ b < B ∧ w.cell? ⟨b, o + k * 4, none⟩ = some (.int .i64 (X k)) ∧ w.cell? ⟨b, o + k * 4 + 1, none⟩ = some (.int .i64 (Y k)) ∧ w.cell? ⟨b, o + k * 4 + 2, none⟩ = some (.int .i64 (X ((k + 1) % n))) ∧ w.cell? ⟨b, o + k * 4 + 3, none⟩ = some (.int .i64 (Y ((k + 1) % n))) := by
  obtain ⟨b, o, e, hb, hc⟩ := h.at_ hk
  have c0 := hc 0 (by omega)
  have c1 := hc 1 (by omega)
  have c2 := hc 2 (by omega)
  have c3 := hc 3 (by omega)
  rw [sd_at X Y n hk (by omega)] at c0 c1 c2 c3
  exact ⟨b, o, e, hb, c0, c1, c2, c3⟩
theorem mod_cast1 (k n : Nat) : ((k : Int) + 1) % (n : Int) = (((k + 1) % n : Nat) : Int) := rfl
theorem mod_cast2 (k n : Nat) : ((k : Int) + 1).tmod (n : Int) = (((k + 1) % n : Nat) : Int) := rfl
theorem infoL : (Try.prog.info? 103).map (fun i => (i.zero, i.size, i.bytes)) = some (some (.agg #[.int .i64 0, .int .i64 0, .int .i64 0, .int .i64 0]), 4, 32) := by kernel_rfl
theorem four_cells (x y u v : Int) : ∀ z ∈ [Value.int .i64 x, .int .i64 y, .int .i64 u, .int .i64 v], z.oneCell' = true := by
  intro z hz
  simp at hz
  rcases hz with rfl | rfl | rfl | rfl <;> rfl
theorem nil_own4 (w : World) (B e : Nat) : w.ownsRow B e 4 (.slice none 0 0) 0 (cellsI []) := ⟨by simp [cellsI], .inl ⟨rfl, rfl⟩⟩
theorem own_app4 {w : World} {B e k : Nat} {v : Value} {L : List Int} {x y p q : Int} (h : w.ownsRow B e 4 v (k + 1) (cellsI L ++ [.int .i64 x, .int .i64 y, .int .i64 p, .int .i64 q])) : w.ownsRow B e 4 v (k + 1) (cellsI (L ++ [x, y, p, q])) := by
  unfold cellsI at h ⊢
  rw [List.map_append]
  exact h
set_option maxRecDepth 100000 in
set_option maxHeartbeats 2000000 in
theorem sidesOf (zs : List Int) (A : Option Addr) (n c : Nat) (w : World) (hn : n ≤ 1048576) (h1 : RdZ 2 w w.heap.size A n zs) :
    Calls Try.prog 59 #[.slice A n c] w fun e w' => ∃ v, e = .returned v ∧ w'.ownsRow w.heap.size 103 4 v n (cellsI (sdL (cX zs) (cY zs) n n)) ∧ Below w.heap.size w w' := by
  obtain ⟨i0, hi, hz0, hz1, hz2⟩ := info_parts infoL
  have HR := Lib.hid h1
  clear h1
  go_enter Try.func59, Try.ntmps59
  go_wp2_with fail
  go_loopw [3, 8] (fun v i wr => ∃ k : Nat, k ≤ n ∧ i = .int .i64 k ∧ wr.ownsRow w.heap.size 103 4 v k (cellsI (sdL (cX zs) (cY zs) n k)) ∧ Below w.heap.size w wr) (fun _ i _ => n - (intOf i).toNat)
  case atStart => exact ⟨0, Nat.zero_le _, rfl, nil_own4 _ _ _, Below.refl _ _⟩
  case round =>
    obtain ⟨k, hk, rfl, hown, hb⟩ := hrel
    have HB := Lib.hid hb
    have HO := Lib.hid hown
    clear hown
    by_cases hlt : k < n
    · obtain ⟨j, hj⟩ : ∃ j, j = (k + 1) % n := ⟨_, rfl⟩
      have hjn : j < n := by rw [hj]; exact Nat.mod_lt _ (by omega)
      have hm : ((k : Int) + 1) % (n : Int) = (j : Int) := by rw [hj]; exact mod_cast1 k n
      have hm2 : ((k : Int) + 1).tmod (n : Int) = (j : Int) := by rw [hj]; exact mod_cast2 k n
      have hnz : ((n : Int) == 0) = false := beq_eq_false_iff_ne.mpr (by omega)
      have hnk : ¬ n = 0 := by omega
      have hnk2 : (n == 0) = false := beq_eq_false_iff_ne.mpr hnk
      have hnp : (0 : Int) < (n : Int) := by omega
      obtain ⟨b1, o1, rfl, l1, p0, p1⟩ := cells2 (HR.out.below hb (Nat.le_refl _)) hlt
      obtain ⟨b2, o2, e2, l2, q0, q1⟩ := cells2 (HR.out.below hb (Nat.le_refl _)) hjn
      simp only [Option.some.injEq, Addr.mk.injEq, and_true] at e2
      obtain ⟨rfl, rfl⟩ := e2
      have hlt2 : (k : Int) < (n : Int) := by omega
      have hjn2 : (j : Int) < (n : Int) := by omega
      have hj0 : (0 : Int) ≤ (j : Int) := Int.natCast_nonneg _
      have hne : ¬ (n : Int) = 0 := by omega
      have wk : IntKind.i64.wrap ((k : Int) + 1) = (k : Int) + 1 := IntWalk.i64_in _ (by omega)
      have HS := Lib.hid (show sdL (cX zs) (cY zs) n (k + 1) = sdL (cX zs) (cY zs) n k ++ [fld 2 zs k 0, fld 2 zs k 1, fld 2 zs j 0, fld 2 zs j 1] from by rw [hj]; rfl)
      have S0 := Lib.hid (newS 31 #[.int .i64 (fld 2 zs k 0), .int .i64 (fld 2 zs k 1)] wr)
      have QC := Lib.hid (show ∀ WZ : World, Below wr.heap.size wr WZ → WZ.cell? ⟨b1, o1 + j * 2, none⟩ = some (.int .i64 (fld 2 zs j 0)) ∧ WZ.cell? ⟨b1, o1 + j * 2 + 1, none⟩ = some (.int .i64 (fld 2 zs j 1)) from fun WZ hz => ⟨(hz.cell (p := ⟨b1, o1 + j * 2, none⟩) (Nat.lt_of_lt_of_le l2 hb.size)).trans q0, (hz.cell (p := ⟨b1, o1 + j * 2 + 1, none⟩) (Nat.lt_of_lt_of_le l2 hb.size)).trans q1⟩)
      have l3 : b1 < wr.heap.size := Nat.lt_of_lt_of_le l2 hb.size
      have N1 := Lib.hid (show u3.ownBlock ≠ some wr.heap.size from fun e => by have := own_row_lt HO.out _ e; omega)
      have N2 := Lib.hid (show u3.ownBlock ≠ some b1 from fun e => by have := (HO.out.lt _ e).1; omega)
      clear hb hj q0 q1
      generalize fld 2 zs k 0 = x at *
      generalize fld 2 zs k 1 = y at *
      generalize fld 2 zs j 0 = u at *
      generalize fld 2 zs j 1 = z at *
      generalize sdL (cX zs) (cY zs) n k = L at *
      go_upto_region 5 with fail
      have HCb := Lib.hid (S0.out.1)
      generalize wr.alloc (.cells #[.int .i64 x, .int .i64 y] 31) = V at *
      have CS := Lib.hid (show ∀ WZ : World, Below V.heap.size V WZ → WZ.cell? ⟨wr.heap.size, 0, none⟩ = some (.int .i64 x) ∧ WZ.cell? ⟨wr.heap.size, 1, none⟩ = some (.int .i64 y) ∧ WZ.cell? ⟨b1, o1 + j * 2, none⟩ = some (.int .i64 u) ∧ WZ.cell? ⟨b1, o1 + j * 2 + 1, none⟩ = some (.int .i64 z) from fun WZ hz => And.intro (posx.at_cell (S0.out.old hz) 0 (.int .i64 x) rfl) (And.intro (posx.at_cell (S0.out.old hz) 1 (.int .i64 y) rfl) (QC.out WZ (HCb.out.trans (hz.mono HCb.out.size)))))
      have OV := Lib.hid (own_.own_below HO.out HCb.out)
      have BV := Lib.hid (HB.out.trans (HCb.out.mono HB.out.size))
      clear p0 p1 QC HO
      go_region_held3 (fun w' => w'.cell? ⟨wr.heap.size, 0, none⟩ = some (.int .i64 x) ∧ w'.cell? ⟨wr.heap.size, 1, none⟩ = some (.int .i64 y) ∧ w'.cell? ⟨b1, o1 + j * 2, none⟩ = some (.int .i64 u) ∧ w'.cell? ⟨b1, o1 + j * 2 + 1, none⟩ = some (.int .i64 z)) (first
        | exact CS.out _ (Below.refl V.heap.size V).drew
        | exact CS.out _ ((Below.refl V.heap.size V).drew.alloc (Nat.le_refl _) _)
        | exact CS.out _ (by assumption)
        | assumption
        | go_keep) (first
        | (refine step_append_sz rfl (.tmp 13) (.tmp 24) 98 rfl w.heap.size 103 i0 (.agg #[.int .i64 0, .int .i64 0, .int .i64 0, .int .i64 0]) 4 32 Try.underlying98 hi hz0 hz1 hz2 rfl (by decide) _ k (cellsI L) rfl (own_.own_below OV.out ((Below.refl V.heap.size V).drew.alloc (Nat.le_refl _) (.cells #[.int .i64 x, .int .i64 y, .int .i64 u, .int .i64 z] 103))) _ 1 1 [.int .i64 x, .int .i64 y, .int .i64 u, .int .i64 z] rfl rfl (cells_new V.drew 103 #[.int .i64 x, .int .i64 y, .int .i64 u, .int .i64 z]) (four_cells _ _ _ _) (by unfold maxLen; omega) (by omega) (by have := BV.out.size; show w.heap.size ≤ (V.alloc _).heap.size; rw [World.size_alloc]; omega) ?_
           intro v1 w1 oA gA nA
           have CA := CS.out _ ((Below.refl V.heap.size V).drew.alloc (Nat.le_refl _) (.cells #[.int .i64 x, .int .i64 y, .int .i64 u, .int .i64 z] 103))
           have hS1 : w1.cell? ⟨wr.heap.size, 0, none⟩ = some (.int .i64 x) ∧ w1.cell? ⟨wr.heap.size, 1, none⟩ = some (.int .i64 y) ∧ w1.cell? ⟨b1, o1 + j * 2, none⟩ = some (.int .i64 u) ∧ w1.cell? ⟨b1, o1 + j * 2 + 1, none⟩ = some (.int .i64 z) := ⟨gA.cell CA.1 (fun e => N1.out e.symm), gA.cell CA.2.1 (fun e => N1.out e.symm), gA.cell CA.2.2.1 (fun e => N2.out e.symm), gA.cell CA.2.2.2 (fun e => N2.out e.symm)⟩
           have hbA := own_.below_append BV.out.drew (show V.drew.ownsRow w.heap.size 103 4 u3 k (cellsI L) from OV.out) BV.out.drew.size gA))
      all_goals (
        have HOA := Lib.hid (own_app4 oA)
        have HBA := Lib.hid hbA
        clear oA gA nA hbA
        go_wp2_with fail
        go_roundw
        case rel => exact ⟨k + 1, by omega, by go_num, by rw [HS.out]; exact HOA.out, HBA.out⟩
        case measure => simp [intOf]; omega)
    · obtain rfl : k = n := by omega
      clear hb HR
      go_wp2_with fail
      go_ret
      exact ⟨_, rfl, HO.out, HB.out⟩
end Go.Proofs.Ytkndfklbonkbiaa.sctb
