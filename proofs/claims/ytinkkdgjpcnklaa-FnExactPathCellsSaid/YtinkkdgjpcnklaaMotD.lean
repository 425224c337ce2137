/- impl.PathCells. -/
import Derived.Test.YtinkkdgjpcnklaaMotC
import Derived.Test.YtinkkdgjpcnklaaMotK
import Derived.Test.YtinkkdgjpcnklaaTailH
import Derived.Test.YtinkkdgjpcnklaaPlcE
import Derived.Lib.QuietBelow
import Derived.Deep.CutRange
namespace Go.Proofs.Ytinkkdgjpcnklaa.motd
open Go.RowKit Go.Proofs.Ytinkkdgjpcnklaa.ints Go.Proofs.Ytinkkdgjpcnklaa.lst Go.Proofs.Ytinkkdgjpcnklaa.in_ Go.Proofs.Ytinkkdgjpcnklaa.ats Go.Proofs.Ytinkkdgjpcnklaa.pos Go.Proofs.Ytinkkdgjpcnklaa.vel Go.Proofs.Ytinkkdgjpcnklaa.hgt Go.Proofs.Ytinkkdgjpcnklaa.mot Go.Proofs.Ytinkkdgjpcnklaa.mota Go.Proofs.Ytinkkdgjpcnklaa.mots Go.Proofs.Ytinkkdgjpcnklaa.motc Go.Proofs.Ytinkkdgjpcnklaa.motk Go.Proofs.Ytinkkdgjpcnklaa.tailh

/-- Behind the leading ones comes one that is not so. -/
theorem led_next (f : Nat → Bool) (n : Nat) (h : led f n < n) : f (led f n) = false := by
  cases e : f (led f n)
  · rfl
  · exfalso
    have hall : ∀ i, i < led f n + 1 → f i = true := fun i hi => by
      by_cases e2 : i = led f n
      · rw [e2]; exact e
      · exact led_before n i (by omega)
    have mono : ∀ m, led f n + 1 ≤ m → led f n + 1 ≤ led f m := by
      intro m
      induction m with
      | zero => intro h; omega
      | succ m ih =>
        intro hm
        by_cases e3 : led f n + 1 ≤ m
        · have := ih e3
          rw [led]; split <;> omega
        · have : m + 1 = led f n + 1 := by omega
          rw [this, led_all _ hall]
          exact Nat.le_refl _
    have := mono n (by omega)
    omega
theorem pc_fail0 {x y u v h c m s : Int} (e : moB x y u v h c = false) : pcB x y u v h c m s = false := by unfold pcB; rw [e]; rfl
theorem pc_fail1 {x y u v h c m s : Int} (e : isIn m 0 60 = false) : pcB x y u v h c m s = false := by unfold pcB; rw [e, Bool.false_and, Bool.and_false]
theorem pc_fail2 {x y u v h c m s : Int} (e : isIn s 1 1000 = false) : pcB x y u v h c m s = false := by unfold pcB; rw [e, Bool.false_and, Bool.and_false, Bool.and_false]
theorem pc_fail3 {x y u v h c s : Int} {M k : Nat} (hk : k ≤ M) (e : okT x y u v k = false) : pcB x y u v h c (M : Int) s = false := by
  have hl : ¬ led (okT x y u v) (M + 1) = M + 1 := fun hl => by
    have := led_before (f := okT x y u v) (M + 1) k (by rw [hl]; omega)
    rw [this] at e
    cases e
  unfold pcB
  rw [Int.toNat_natCast, decide_eq_false hl, Bool.and_false, Bool.and_false, Bool.and_false]
theorem pc_good {x y u v h c s : Int} {M : Nat} (hm : moB x y u v h c = true) (hM : M ≤ 60) (hs : isIn s 1 1000 = true) (hall : ∀ i, i < M + 1 → okT x y u v i = true) :
    pcB x y u v h c (M : Int) s = true ∧ pcV x y u v h c (M : Int) s = cp (ceX x u s) (ceX y v s) (M + 1) ∧ pcN x y u v h c (M : Int) s = cpN (ceX x u s) (ceX y v s) (M + 1) := by
  have e : pcB x y u v h c (M : Int) s = true := by
    unfold pcB
    rw [hm, isIn_of (by omega) (by omega), hs, Int.toNat_natCast, decide_eq_true (led_all (M + 1) hall)]; rfl
  have := pc_yes e
  rw [Int.toNat_natCast] at this
  exact ⟨e, this⟩
theorem at_kept {T : TypeId} {cs : Array Value} {w W W' : World} {b : Nat} {r : Option Nat} (h : AtS T cs w W b) (hg : W.grownBy W' r) (hr : r ≠ some b) (i : Nat) : W'.cell? ⟨b, i, none⟩ = cs[i]? :=
  cell_of_row _ _ i cs T (0, 0) ((hg.block b h.2.2.1 (fun e => hr e.symm)).trans h.2.2.2)
theorem nil_own (w : World) (B e : Nat) : w.ownsRow B e 2 (.slice none 0 0) 0 (cellsI []) := ⟨by simp [cellsI], .inl ⟨rfl, rfl⟩⟩
theorem quo_is {x s : Int} (h0 : 0 ≤ x) (h1 : x ≤ 9899) (hs : 1 ≤ s) (hs2 : s ≤ 1000) : x.tdiv s = x / s ∧ 0 ≤ x / s ∧ x / s ≤ 9899 := by
  refine ⟨Int.tdiv_eq_ediv_of_nonneg h0, Int.ediv_nonneg h0 (by omega), ?_⟩
  exact Int.le_trans (Int.ediv_le_self s h0) h1
theorem ok_at {x y u v : Int} {k : Nat} (h : okT x y u v k = true) : (0 ≤ x + u * (k : Int) ∧ x + u * (k : Int) ≤ 9899) ∧ 0 ≤ y + v * (k : Int) ∧ y + v * (k : Int) ≤ 9899 := pB_yes h
/-- All cells of the path, also those that come twice. -/
def full (f g : Nat → Int) : Nat → List Int
  | 0 => []
  | k + 1 => full f g k ++ [f k, g k]
theorem full_length (f g : Nat → Int) : ∀ k, (full f g k).length = k * 2
  | 0 => rfl
  | k + 1 => by rw [full, List.length_append, full_length f g k]; simp; omega
theorem full_at (f g : Nat → Int) : ∀ n k, k < n → fld 2 (full f g n) k 0 = f k ∧ fld 2 (full f g n) k 1 = g k
  | 0, k, h => absurd h (Nat.not_lt_zero k)
  | n + 1, k, h => by
    have hl := full_length f g n
    by_cases e : k = n
    · subst e
      unfold fld
      rw [full, List.getD_eq_getElem?_getD, List.getD_eq_getElem?_getD, List.getElem?_append_right (by omega), List.getElem?_append_right (by omega), hl, Nat.add_zero, Nat.sub_self, Nat.add_sub_cancel_left]
      exact ⟨rfl, rfl⟩
    · have := full_at f g n k (by omega)
      unfold fld at this ⊢
      rw [full, List.getD_eq_getElem?_getD, List.getD_eq_getElem?_getD, List.getElem?_append_left (by omega), List.getElem?_append_left (by omega), ← List.getD_eq_getElem?_getD, ← List.getD_eq_getElem?_getD]
      exact this
theorem full_cp (f g : Nat → Int) (n : Nat) : cl (full f g n) n = cp f g n ∧ cn (full f g n) n = cpN f g n := cp_congr n (fun i hi => full_at f g n i hi)
theorem own_pair {w : World} {B e n : Nat} {v : Value} {zs : List Int} {a b : Int} (h : w.ownsRow B e 2 v (n + 1) (cellsI zs ++ [.int .i64 a, .int .i64 b])) : w.ownsRow B e 2 v (n + 1) (cellsI (zs ++ [a, b])) := own_growP h

set_option maxRecDepth 100000 in
set_option maxHeartbeats 4000000 in
theorem pathCells (x y u v h c m s : Int) (w : World) :
    Calls Try.prog 31 #[.agg #[.int .i64 x, .int .i64 y, .int .i64 u, .int .i64 v, .int .i64 h, .int .i64 c], .int .i64 m, .int .i64 s] w fun e w' => ∃ r, e = .returned (.tuple #[r, .bool (pcB x y u v h c m s)]) ∧ w'.ownsRow w.heap.size 25 2 r (pcN x y u v h c m s) (cellsI (pcV x y u v h c m s)) ∧ Below w.heap.size w w' := by
  have S0 := Lib.hid (newS 28 #[.int .i64 x, .int .i64 y, .int .i64 u, .int .i64 v, .int .i64 h, .int .i64 c] w)
  have T0 := Lib.hid (fun W => mota.isValidMotion x y u v h c W)
  have T1 := Lib.hid (fun W => mota.isWholeMinute m W)
  cases hq0 : moB x y u v h c
  · have HE := Lib.hid (pc_fail0 (m := m) (s := s) hq0)
    rw [hq0] at T0
    clear hq0
    go_enter Try.func31, Try.ntmps31
    go_wp2_with fail
    generalize w.alloc (.cells #[.int .i64 x, .int .i64 y, .int .i64 u, .int .i64 v, .int .i64 h, .int .i64 c] 28) = W0 at *
    have AN0 := Lib.hid (Below.refl W0.heap.size W0)
    refine (T0.out W0).mono ?_
    rintro e V1 ⟨rfl, hb1⟩
    have AN1 := Lib.hid (AN0.out.trans (hb1.mono AN0.out.size))
    clear hb1 AN0
    have BX := Lib.hid (S0.out.1.trans (AN1.out.mono S0.out.1.size))
    go_wp2_with fail
    go_ret2
    exact ⟨.slice none 0 0, by rw [HE.out]; rfl, by rw [(pc_no HE.out).1, (pc_no HE.out).2]; exact nil_own _ _ _, BX.out⟩
  rw [hq0] at T0
  cases hq1 : isIn m 0 60
  · have HE := Lib.hid (pc_fail1 (x := x) (y := y) (u := u) (v := v) (h := h) (c := c) (s := s) hq1)
    rw [hq1] at T1
    clear hq0 hq1
    go_enter Try.func31, Try.ntmps31
    go_wp2_with fail
    generalize w.alloc (.cells #[.int .i64 x, .int .i64 y, .int .i64 u, .int .i64 v, .int .i64 h, .int .i64 c] 28) = W0 at *
    have AN0 := Lib.hid (Below.refl W0.heap.size W0)
    refine (T0.out W0).mono ?_
    rintro e V1 ⟨rfl, hb1⟩
    have AN1 := Lib.hid (AN0.out.trans (hb1.mono AN0.out.size))
    clear hb1 AN0
    have m0_ : V1.cell? ⟨w.heap.size, 0, none⟩ = some (.int .i64 x) := (S0.out.old AN1.out).cell 0
    have m1_ : V1.cell? ⟨w.heap.size, 1, none⟩ = some (.int .i64 y) := (S0.out.old AN1.out).cell 1
    have m2_ : V1.cell? ⟨w.heap.size, 2, none⟩ = some (.int .i64 u) := (S0.out.old AN1.out).cell 2
    have m3_ : V1.cell? ⟨w.heap.size, 3, none⟩ = some (.int .i64 v) := (S0.out.old AN1.out).cell 3
    have m4_ : V1.cell? ⟨w.heap.size, 4, none⟩ = some (.int .i64 h) := (S0.out.old AN1.out).cell 4
    have m5_ : V1.cell? ⟨w.heap.size, 5, none⟩ = some (.int .i64 c) := (S0.out.old AN1.out).cell 5
    go_wp2_with fail
    clear m0_ m1_ m2_ m3_ m4_ m5_
    refine (T1.out V1).mono ?_
    rintro e w' ⟨rfl, rfl⟩
    have BX := Lib.hid (S0.out.1.trans (AN1.out.mono S0.out.1.size))
    go_wp2_with fail
    go_ret2
    exact ⟨.slice none 0 0, by rw [HE.out]; rfl, by rw [(pc_no HE.out).1, (pc_no HE.out).2]; exact nil_own _ _ _, BX.out⟩
  rw [hq1] at T1
  by_cases hs1 : 1 ≤ s
  case neg =>
    have HE := Lib.hid (pc_fail2 (x := x) (y := y) (u := u) (v := v) (h := h) (c := c) (m := m) (s := s) (decide_eq_false (fun h => hs1 h.1)))
    clear hq0 hq1
    go_enter Try.func31, Try.ntmps31
    go_wp2_with fail
    generalize w.alloc (.cells #[.int .i64 x, .int .i64 y, .int .i64 u, .int .i64 v, .int .i64 h, .int .i64 c] 28) = W0 at *
    have AN0 := Lib.hid (Below.refl W0.heap.size W0)
    refine (T0.out W0).mono ?_
    rintro e V1 ⟨rfl, hb1⟩
    have AN1 := Lib.hid (AN0.out.trans (hb1.mono AN0.out.size))
    clear hb1 AN0
    have m0_ : V1.cell? ⟨w.heap.size, 0, none⟩ = some (.int .i64 x) := (S0.out.old AN1.out).cell 0
    have m1_ : V1.cell? ⟨w.heap.size, 1, none⟩ = some (.int .i64 y) := (S0.out.old AN1.out).cell 1
    have m2_ : V1.cell? ⟨w.heap.size, 2, none⟩ = some (.int .i64 u) := (S0.out.old AN1.out).cell 2
    have m3_ : V1.cell? ⟨w.heap.size, 3, none⟩ = some (.int .i64 v) := (S0.out.old AN1.out).cell 3
    have m4_ : V1.cell? ⟨w.heap.size, 4, none⟩ = some (.int .i64 h) := (S0.out.old AN1.out).cell 4
    have m5_ : V1.cell? ⟨w.heap.size, 5, none⟩ = some (.int .i64 c) := (S0.out.old AN1.out).cell 5
    go_wp2_with fail
    clear m0_ m1_ m2_ m3_ m4_ m5_
    refine (T1.out V1).mono ?_
    rintro e w' ⟨rfl, rfl⟩
    have BX := Lib.hid (S0.out.1.trans (AN1.out.mono S0.out.1.size))
    go_wp2_with fail
    go_ret2
    exact ⟨.slice none 0 0, by rw [HE.out]; rfl, by rw [(pc_no HE.out).1, (pc_no HE.out).2]; exact nil_own _ _ _, BX.out⟩
  by_cases hs2 : s ≤ 1000
  case neg =>
    have HE := Lib.hid (pc_fail2 (x := x) (y := y) (u := u) (v := v) (h := h) (c := c) (m := m) (s := s) (decide_eq_false (fun h => hs2 h.2)))
    clear hq0 hq1
    go_enter Try.func31, Try.ntmps31
    go_wp2_with fail
    generalize w.alloc (.cells #[.int .i64 x, .int .i64 y, .int .i64 u, .int .i64 v, .int .i64 h, .int .i64 c] 28) = W0 at *
    have AN0 := Lib.hid (Below.refl W0.heap.size W0)
    refine (T0.out W0).mono ?_
    rintro e V1 ⟨rfl, hb1⟩
    have AN1 := Lib.hid (AN0.out.trans (hb1.mono AN0.out.size))
    clear hb1 AN0
    have m0_ : V1.cell? ⟨w.heap.size, 0, none⟩ = some (.int .i64 x) := (S0.out.old AN1.out).cell 0
    have m1_ : V1.cell? ⟨w.heap.size, 1, none⟩ = some (.int .i64 y) := (S0.out.old AN1.out).cell 1
    have m2_ : V1.cell? ⟨w.heap.size, 2, none⟩ = some (.int .i64 u) := (S0.out.old AN1.out).cell 2
    have m3_ : V1.cell? ⟨w.heap.size, 3, none⟩ = some (.int .i64 v) := (S0.out.old AN1.out).cell 3
    have m4_ : V1.cell? ⟨w.heap.size, 4, none⟩ = some (.int .i64 h) := (S0.out.old AN1.out).cell 4
    have m5_ : V1.cell? ⟨w.heap.size, 5, none⟩ = some (.int .i64 c) := (S0.out.old AN1.out).cell 5
    go_wp2_with fail
    clear m0_ m1_ m2_ m3_ m4_ m5_
    refine (T1.out V1).mono ?_
    rintro e w' ⟨rfl, rfl⟩
    have BX := Lib.hid (S0.out.1.trans (AN1.out.mono S0.out.1.size))
    go_wp2_with fail
    go_ret2
    exact ⟨.slice none 0 0, by rw [HE.out]; rfl, by rw [(pc_no HE.out).1, (pc_no HE.out).2]; exact nil_own _ _ _, BX.out⟩
  obtain ⟨M, rfl⟩ := Int.eq_ofNat_of_zero_le (isIn_yes hq1).1
  have hM : M ≤ 60 := by have := (isIn_yes hq1).2; omega
  have hM2 : (M : Int) ≤ 60 := by omega
  obtain ⟨hx, hy, hu, hv, -, -⟩ := mo_in hq0
  have HG := Lib.hid (fun hall => pc_good (h := h) (c := c) hq0 hM (isIn_of hs1 hs2) hall)
  have HF := Lib.hid (fun (k : Nat) (hk : k ≤ M) e => pc_fail3 (x := x) (y := y) (u := u) (v := v) (h := h) (c := c) (s := s) (M := M) (k := k) hk e)
  have HL := Lib.hid (fun (g : Nat) (W : World) (hm : Mo x y u v g W) => leavesBy x y u v M g W hm hx hy hu hv hM)
  have HC := Lib.hid (fun W => courseOf x y u v h c W)
  have HK := Lib.hid (fun (k g : Nat) (W : World) (hk : k ≤ 60) (hm : Mo x y u v g W) => course1 x y u v k g W hm hx hy hu hv hk)
  obtain ⟨i0, hi, hz0, hz1, hz2⟩ := info_parts infoP
  have e0 : IntKind.i64.wrap ((M : Int) + 1) = (M : Int) + 1 := IntWalk.i64_in _ (by omega)
  clear hq0 hq1 hx hy hu hv
  go_enter Try.func31, Try.ntmps31
  go_wp2_with fail
  generalize w.alloc (.cells #[.int .i64 x, .int .i64 y, .int .i64 u, .int .i64 v, .int .i64 h, .int .i64 c] 28) = W0 at *
  have AN0 := Lib.hid (Below.refl W0.heap.size W0)
  refine (T0.out W0).mono ?_
  rintro e V1 ⟨rfl, hb1⟩
  have AN1 := Lib.hid (AN0.out.trans (hb1.mono AN0.out.size))
  clear hb1 AN0
  have m0_ : V1.cell? ⟨w.heap.size, 0, none⟩ = some (.int .i64 x) := (S0.out.old AN1.out).cell 0
  have m1_ : V1.cell? ⟨w.heap.size, 1, none⟩ = some (.int .i64 y) := (S0.out.old AN1.out).cell 1
  have m2_ : V1.cell? ⟨w.heap.size, 2, none⟩ = some (.int .i64 u) := (S0.out.old AN1.out).cell 2
  have m3_ : V1.cell? ⟨w.heap.size, 3, none⟩ = some (.int .i64 v) := (S0.out.old AN1.out).cell 3
  have m4_ : V1.cell? ⟨w.heap.size, 4, none⟩ = some (.int .i64 h) := (S0.out.old AN1.out).cell 4
  have m5_ : V1.cell? ⟨w.heap.size, 5, none⟩ = some (.int .i64 c) := (S0.out.old AN1.out).cell 5
  go_wp2_with fail
  clear m0_ m1_ m2_ m3_ m4_ m5_
  refine (T1.out V1).mono ?_
  rintro e w' ⟨rfl, rfl⟩
  have m0_ : V1.cell? ⟨w.heap.size, 0, none⟩ = some (.int .i64 x) := (S0.out.old AN1.out).cell 0
  have m1_ : V1.cell? ⟨w.heap.size, 1, none⟩ = some (.int .i64 y) := (S0.out.old AN1.out).cell 1
  have m2_ : V1.cell? ⟨w.heap.size, 2, none⟩ = some (.int .i64 u) := (S0.out.old AN1.out).cell 2
  have m3_ : V1.cell? ⟨w.heap.size, 3, none⟩ = some (.int .i64 v) := (S0.out.old AN1.out).cell 3
  have m4_ : V1.cell? ⟨w.heap.size, 4, none⟩ = some (.int .i64 h) := (S0.out.old AN1.out).cell 4
  have m5_ : V1.cell? ⟨w.heap.size, 5, none⟩ = some (.int .i64 c) := (S0.out.old AN1.out).cell 5
  go_wp2_with fail
  clear m0_ m1_ m2_ m3_ m4_ m5_
  refine (HC.out V1).mono ?_
  rintro e V7 ⟨g, rfl, sg⟩
  have AN7 := Lib.hid (AN1.out.trans (sg.1.mono AN1.out.size))
  have HM7 := Lib.hid (mo_of sg)
  clear sg AN1
  go_wp2_with fail
  refine (HL.out g V7 HM7.out).mono ?_
  rintro e V8 ⟨rfl, hb8⟩
  have AN8 := Lib.hid (AN7.out.trans (hb8.mono AN7.out.size))
  have HM := Lib.hid (HM7.out.next hb8)
  clear hb8 AN7 HM7 HL HC
  cases hlb : lbB (okT x y u v) (M + 1)
  case true =>
    have HE := Lib.hid (show pcB x y u v h c (M : Int) s = false from by
      unfold lbB at hlb
      have hlt := of_decide_eq_true hlb
      exact HF.out _ (by omega) (led_next _ _ hlt))
    have BX := Lib.hid (S0.out.1.trans (AN8.out.mono S0.out.1.size))
    go_wp2_with fail
    go_ret2
    exact ⟨.slice none 0 0, by rw [HE.out]; rfl, by rw [(pc_no HE.out).1, (pc_no HE.out).2]; exact nil_own _ _ _, BX.out⟩
  have HA := Lib.hid (show ∀ i, i < M + 1 → okT x y u v i = true from fun i hi => by
    unfold lbB at hlb
    have := of_decide_eq_false hlb
    exact led_before (M + 1) i (by omega))
  have HE := Lib.hid (HG.out HA.out)
  have hB8 := AN8.out.size
  have HB8 := Lib.hid hB8
  clear HF HG hlb hB8
  go_wp2_with fail
  go_loopw [11, 41] (fun r i wr => ∃ k : Nat, k ≤ M + 1 ∧ i = .int .i64 k ∧ wr.ownsRow V8.heap.size 25 2 r k (cellsI (full (ceX x u s) (ceX y v s) k)) ∧ Below V8.heap.size V8 wr) (fun _ i _ => M + 1 - (intOf i).toNat)
  case atStart => exact ⟨0, by omega, rfl, nil_own _ _ _, Below.refl _ _⟩
  case round =>
    obtain ⟨k, hk, rfl, hown, hb⟩ := hrel
    have HO := Lib.hid hown
    have HB := Lib.hid hb
    clear hown hb
    by_cases hlt : k < M + 1
    · have hlt2 : (k : Int) < (M : Int) + 1 := by omega
      have HKC := Lib.hid (HK.out k g wr (by omega) (HM.out.next HB.out))
      obtain ⟨ok0, ok1⟩ := ok_at (HA.out k hlt)
      have HFU := Lib.hid (show full (ceX x u s) (ceX y v s) (k + 1) = full (ceX x u s) (ceX y v s) k ++ [(x + u * (k : Int)) / s, (y + v * (k : Int)) / s] from rfl)
      generalize x + u * (k : Int) = X at *
      generalize y + v * (k : Int) = Y at *
      generalize full (ceX x u s) (ceX y v s) k = L at *
      have z0 : (s == 0) = false := by simp; omega
      have z1 : ¬ s = 0 := by omega
      have q1 := quo_is ok0.1 ok0.2 hs1 hs2
      have q2 := quo_is ok1.1 ok1.2 hs1 hs2
      have e1 : IntKind.i64.wrap (X.tdiv s) = X / s := by rw [q1.1]; exact IntWalk.i64_in _ (by omega)
      have e2 : IntKind.i64.wrap (Y.tdiv s) = Y / s := by rw [q2.1]; exact IntWalk.i64_in _ (by omega)
      have e3 : IntKind.i64.wrap (X / s) = X / s := IntWalk.i64_in _ (by omega)
      have e4 : IntKind.i64.wrap (Y / s) = Y / s := IntWalk.i64_in _ (by omega)
      clear HA HK
      generalize X / s = qx at *
      generalize Y / s = qy at *
      go_wp2_with fail
      refine HKC.out.mono ?_
      rintro e V1 ⟨rfl, hb1⟩
      have O1 := Lib.hid (own_.own_below HO.out hb1)
      have B1 := Lib.hid (HB.out.trans (hb1.mono HB.out.size))
      clear hb1 HKC HO HB
      have SX := Lib.hid (newS 25 #[.int .i64 X, .int .i64 Y] V1)
      have O2 := Lib.hid (own_.own_below O1.out SX.out.1)
      have NE := Lib.hid (show u11.ownBlock ≠ some V1.heap.size from fun e => Nat.lt_irrefl _ (own_row_lt O1.out _ e))
      have B2 := Lib.hid (B1.out.trans (SX.out.1.mono B1.out.size))
      clear O1 B1
      go_upto_region 12 with fail
      generalize V1.alloc (.cells #[.int .i64 X, .int .i64 Y] 25) = V2 at *
      have HS := Lib.hid (show V2.drew.cell? ⟨V1.heap.size, 0, none⟩ = some (.int .i64 X) ∧ V2.drew.cell? ⟨V1.heap.size, 1, none⟩ = some (.int .i64 Y) from ⟨SX.out.drew.cell 0, SX.out.drew.cell 1⟩)
      refine wp_region_tail (S := fun w' => w'.cell? ⟨V1.heap.size, 0, none⟩ = some (.int .i64 X) ∧ w'.cell? ⟨V1.heap.size, 1, none⟩ = some (.int .i64 Y)) 12 (by kernel_rfl) HS.out (fun hHeld => ?_)
      try simp only [Act.put]
      refine wpAnyE_take (i := 0) (v := ?vq0) rfl (by decide +kernel) (fun _ _ _ h => h) (Or.inl ⟨by rfl, ?hq0⟩) (by assumption) ?rq0
      case hq0 =>
        intro wS hSw
        obtain ⟨h0, h1⟩ := hSw
        go_simp
        try with_reducible rfl
      try simp only [Act.put]
      refine wpAnyE_take (i := 1) (v := ?vq1) rfl (by decide +kernel) (fun _ _ _ h => h) (Or.inl ⟨by rfl, ?hq1⟩) (by assumption) ?rq1
      case hq1 =>
        intro wS hSw
        obtain ⟨h0, h1⟩ := hSw
        go_simp
        try with_reducible rfl
      try simp only [Act.put]
      refine wpAnyE_take (i := 2) (v := ?vq2) rfl (by decide +kernel) (fun _ _ _ h => h) (Or.inl ⟨by rfl, ?hq2⟩) (by assumption) ?rq2
      case hq2 =>
        intro wS hSw
        obtain ⟨h0, h1⟩ := hSw
        go_simp
        try with_reducible rfl
      try simp only [Act.put]
      refine wpAnyE_take (i := 3) (v := ?vq3) rfl (by decide +kernel) (fun _ _ _ h => h) (Or.inl ⟨by rfl, ?hq3⟩) (by assumption) ?rq3
      case hq3 =>
        intro wS hSw
        obtain ⟨h0, h1⟩ := hSw
        go_simp
        try with_reducible rfl
      try simp only [Act.put]
      refine wpAnyE_take (i := 4) (v := ?vq4) rfl (by decide +kernel) (fun _ _ _ h => h) (Or.inl ⟨by rfl, ?hq4⟩) (by assumption) ?rq4
      case hq4 =>
        intro wS hSw
        obtain ⟨h0, h1⟩ := hSw
        go_simp
        try with_reducible rfl
      try simp only [Act.put]
      refine wpAnyE_take (i := 5) (v := ?vq5) rfl (by decide +kernel) (fun _ _ _ h => h) (Or.inl ⟨by rfl, ?hq5⟩) (by assumption) ?rq5
      case hq5 =>
        intro wS hSw
        obtain ⟨h0, h1⟩ := hSw
        go_simp
        try with_reducible rfl
      try simp only [Act.put]
      refine wpAnyE_take (i := 6) (v := ?vq6) rfl (by decide +kernel) (fun _ _ _ h => h) (Or.inl ⟨by rfl, ?hq6⟩) (by assumption) ?rq6
      case hq6 =>
        intro wS hSw
        obtain ⟨h0, h1⟩ := hSw
        go_simp
        try with_reducible rfl
      try simp only [Act.put]
      refine wpAnyE_take (i := 7) (v := ?vq7) rfl (by decide +kernel) (fun _ _ _ h => h) (Or.inl ⟨by rfl, ?hq7⟩) (by assumption) ?rq7
      case hq7 =>
        intro wS hSw
        obtain ⟨h0, h1⟩ := hSw
        go_simp
        try with_reducible rfl
      try simp only [Act.put]
      refine wpAnyE_take (i := 8) (v := ?vq8) rfl (by decide +kernel) (fun _ _ _ h => h) (Or.inl ⟨by rfl, ?hq8⟩) (by assumption) ?rq8
      case hq8 =>
        intro wS hSw
        obtain ⟨h0, h1⟩ := hSw
        go_simp
        try with_reducible rfl
      try simp only [Act.put]
      refine wpAnyE_take (i := 9) (v := ?vq9) rfl (by decide +kernel) (fun _ _ _ h => h) (Or.inl ⟨by rfl, ?hq9⟩) (by assumption) ?rq9
      case hq9 =>
        intro wS hSw
        obtain ⟨h0, h1⟩ := hSw
        go_simp
        try with_reducible rfl
      try simp only [Act.put]
      refine wpAnyE_ready (rs := [10]) (by kernel_rfl) (by simp) ?_
      refine AllReadyE.cons (i := 10) rfl (by decide) (fun K hK => ?_) AllReadyE.nil
      go_simp
      have D1 := Lib.hid (SX.out.drew.alloc (.cells #[.int .i64 qx, .int .i64 qy] 25))
      refine hK.out _ _ ⟨D1.out.cell 0, D1.out.cell 1⟩ (fun hHeld => ?_)
      clear hK K
      try simp only [Act.put]
      refine wpAnyE_ready (rs := [11]) (by kernel_rfl) (by simp) ?_
      refine AllReadyE.cons (i := 11) rfl (by decide) (fun K hK => ?_) AllReadyE.nil
      refine step_append_sz rfl (.tmp 47) (.tmp 57) 43 rfl V8.heap.size 25 i0 (.agg #[.int .i64 0, .int .i64 0]) 2 16 Try.underlying43 hi hz0 hz1 hz2 rfl (by decide) _ k (cellsI L) rfl (own_.own_below O2.out ((Below.refl V2.heap.size V2).drew.alloc (Nat.le_refl _) (.cells #[.int .i64 qx, .int .i64 qy] 25))) _ 1 1 [.int .i64 qx, .int .i64 qy] rfl rfl (cells_new V2.drew 25 #[.int .i64 qx, .int .i64 qy]) (two_cells _ _) (by unfold maxLen; omega) (by omega) (by have := B2.out.size; show V8.heap.size ≤ (V2.alloc _).heap.size; rw [World.size_alloc]; omega) ?_
      intro v1 w1 oA gA nA
      have HOA := Lib.hid (own_pair oA)
      have HBA := Lib.hid (own_.below_append (wr := V2.drew) (o := .cells #[.int .i64 qx, .int .i64 qy] 25) B2.out.drew (show V2.drew.ownsRow V8.heap.size 25 2 u11 k (cellsI L) from O2.out) B2.out.size gA)
      have KX := Lib.hid (at_kept (SX.out.drew.alloc (.cells #[.int .i64 qx, .int .i64 qy] 25)) gA NE.out)
      clear oA gA nA
      refine hK.out _ _ ⟨KX.out 0, KX.out 1⟩ (fun hHeld => ?_)
      clear hK K
      try simp only [Act.put]
      refine wpAnyE_ready (rs := [12]) (by kernel_rfl) (by simp) ?_
      refine AllReadyE.last (i := 12) rfl rfl (fun K hK => ?_)
      go_simp
      refine hK.out _ _ ?_
      clear hK K
      try simp only [Act.put]
      refine wpAnyE_done (by kernel_rfl) ?_ _
      try simp only [List.getElem_toArray, List.getElem_cons_succ, List.getElem_cons_zero, List.setIfInBounds_toArray, List.set_cons_succ, List.set_cons_zero]
      go_wp2_with fail
      go_roundw
      case rel => exact ⟨k + 1, by omega, by go_num, by rw [HFU.out]; exact HOA.out, HBA.out⟩
      case measure => simp [intOf]; omega
    · obtain rfl : k = M + 1 := by omega
      obtain ⟨g2, c2, rfl⟩ : ∃ g2 c2, u11 = .slice (some ⟨g2, 0, none⟩) (M + 1) c2 := by
        rcases HO.out.2 with ⟨_, h0⟩ | ⟨g2, c2, cur, e, _⟩
        · omega
        · exact ⟨g2, c2, e⟩
      have CP := Lib.hid (compact V8.heap.size g2 (M + 1) c2 (full (ceX x u s) (ceX y v s) (M + 1)) wr (full_length _ _ _) (by omega) HO.out)
      rw [(full_cp _ _ _).1, (full_cp _ _ _).2, ← HE.out.2.1, ← HE.out.2.2] at CP
      have HGE := Lib.hid (own_caps HO.out).2.2
      have BX := Lib.hid (S0.out.1.trans (AN8.out.mono S0.out.1.size))
      have HBB := Lib.hid (Nat.le_trans S0.out.1.size HB8.out)
      clear HA HK HO
      go_wp2_with fail
      refine CP.out.mono ?_
      rintro e V9 ⟨rfl, ho, hg⟩
      have HO9 := Lib.hid ho
      have HB9 := Lib.hid (HB.out.grown hg HB.out.size (fun k hk => by cases hk; exact HGE.out))
      clear ho hg
      go_wp2_with fail
      go_ret2
      exact ⟨_, by rw [HE.out.1]; rfl, own_.own_base HO9.out HBB.out, BX.out.trans (HB9.out.mono HBB.out)⟩
end Go.Proofs.Ytinkkdgjpcnklaa.motd
