/- spec's LevelConflicts, FreeLevels, ClearedAt. -/
import Derived.Test.YtglonedhoenkpaaLvlT
import Derived.Test.YtglonedhoenkpaaPutN
import Derived.Laws.Small
import Derived.Deep.QuietTactic
import Derived.BigQuiet
import Derived.Deep.RegionHeld3
import Derived.Deep.CutRange
import Derived.Deep.CutBlock
import Derived.Lib.QuietBelow
import Derived.OwnWalk
namespace Go.Proofs.Ytglonedhoenkpaa.lvlu
open Go.RowKit Go.Proofs.Ytglonedhoenkpaa.ints Go.Proofs.Ytglonedhoenkpaa.lst Go.Proofs.Ytglonedhoenkpaa.in_ Go.Proofs.Ytglonedhoenkpaa.ats Go.Proofs.Ytglonedhoenkpaa.putq Go.Proofs.Ytglonedhoenkpaa.vel Go.Proofs.Ytglonedhoenkpaa.lvl Go.Proofs.Ytglonedhoenkpaa.lvle Go.Proofs.Ytglonedhoenkpaa.lvls Go.Proofs.Ytglonedhoenkpaa.lvlt

theorem same_regrown {P : Program} {f : FuncId} {args : Array Value} {w : World} {d : Nat} {os : Array Obj} {v : Value}
    (h : Calls P f args (Sort.grow (redrawn w d) os) fun e w' => e = .returned v ∧ Sort.grow (redrawn w d) os = w') : Calls P f args (Sort.grow (redrawn w d) os) fun e w'' => e = .returned v ∧ ∃ p : Regrown, w'' = Sort.grow (redrawn w p.d) p.os :=
  Calls.regrown_of (h.mono fun e w' h => ⟨h.1, by rw [← h.2]; exact Below.refl _ _⟩)
theorem own_at {T : TypeId} {w W : World} {b s : Nat} (h : AtS T #[] w W b) : W.ownsRow w.heap.size T s (.slice (some ⟨b, 0, none⟩) 0 0) 0 [] :=
  ⟨by simp, .inr ⟨b, 0, #[], rfl, h.2.1, h.2.2.2, Nat.le_refl _, by unfold maxLen; omega, by simp, by simp⟩⟩
theorem own_app {w : World} {B e : Nat} {v : Value} {L : List Int} {x : Int} (h : w.ownsRow B e 1 v (L.length + 1) (cellsI L ++ [.int .i64 x])) : w.ownsRow B e 1 v (L ++ [x]).length (cellsI (L ++ [x])) := own_growI h
theorem putA (B : Nat) (xs : List Int) (y : Int) (u : Value) (m : Nat) (w : World) (hm : xs.length = m) (hn : m ≤ 1048576) (hB : B ≤ w.heap.size) (h : w.ownsRow B 3 1 u m (cellsI xs)) :
    Calls Try.prog 62 #[u, .int .i64 y] w fun e w' => ∃ v, e = .returned v ∧ w'.ownsRow B 3 1 v (putq.put xs y).length (cellsI (putq.put xs y)) ∧ Below w.heap.size w w' := by
  subst hm
  rcases h.2 with ⟨rfl, e0⟩ | ⟨g, cap, cur, rfl, hB', hh, hle, _⟩
  · obtain rfl : xs = [] := List.length_eq_zero_iff.1 e0
    exact (putn.l1Put_nil B y w hB).mono fun e w' ⟨v, h1, h2, h3⟩ => ⟨v, h1, h2, h3⟩
  · exact putr.l1Put B xs y g xs.length cap w hn hB hle h
set_option maxRecDepth 100000 in
set_option maxHeartbeats 4000000 in
theorem levelConflicts (zs : List Int) (a l u f t : Int) (A : Option Addr) (n c : Nat) (w : World) (_hc : n ≤ c) (hn : n ≤ 1048576) (h1 : RdZ 5 w w.heap.size A n zs) :
    Calls Try.prog 20 #[.slice A n c, .agg #[.int .i64 a, .int .i64 l, .int .i64 u, .int .i64 f, .int .i64 t]] w fun e w' => ∃ v, e = .returned (.tuple #[v, .bool (lcB zs n a l u f t)]) ∧ w'.ownsRow w.heap.size 3 1 v (lcV zs n a l u f t).length (cellsI (lcV zs n a l u f t)) ∧ Below w.heap.size w w' := by
  have S0 := Lib.hid ((newS 26 #[.int .i64 a, .int .i64 l, .int .i64 u, .int .i64 f, .int .i64 t] w).alloc (.cells #[] 3))
  have S1 := Lib.hid ((newS 26 #[.int .i64 a, .int .i64 l, .int .i64 u, .int .i64 f, .int .i64 t] w).next 3 #[])
  rw [World.size_alloc] at S1
  have T0 := Lib.hid (fun (W : World) (hb : Below w.heap.size w W) => good18 zs A n c W (by omega) (h1.next hb))
  have T1 := Lib.hid (fun W => cleared18 a l u f t W)
  cases hq0 : cvB zs n
  · rw [hq0] at T0
    have HE := Lib.hid (show lcB zs n a l u f t = false by unfold lcB; rw [hq0]; rfl)
    clear h1 hq0
    go_enter Try.func20, Try.ntmps20
    go_wp2_with fail
    generalize ((w.alloc (.cells #[.int .i64 a, .int .i64 l, .int .i64 u, .int .i64 f, .int .i64 t] 26)).alloc (.cells #[] 3)) = W0 at *
    have AN0 := Lib.hid (Below.refl W0.heap.size W0)
    refine (T0.out W0 (S0.out.1.trans (AN0.out.mono S0.out.1.size))).mono ?_
    rintro e V0 ⟨rfl, hb⟩
    have AN1 := Lib.hid (AN0.out.trans (hb.mono AN0.out.size))
    clear hb
    have HV := Lib.hid (lcV_no HE.out)
    have BX := Lib.hid (S0.out.1.trans (AN1.out.mono S0.out.1.size))
    have OX := Lib.hid (own_at (S1.out.old AN1.out) (s := 1))
    have c00 : V0.cell? ⟨w.heap.size, 0, none⟩ = some (.int .i64 a) := (S0.out.old AN1.out).cell 0
    have c01 : V0.cell? ⟨w.heap.size, 1, none⟩ = some (.int .i64 l) := (S0.out.old AN1.out).cell 1
    have c02 : V0.cell? ⟨w.heap.size, 2, none⟩ = some (.int .i64 u) := (S0.out.old AN1.out).cell 2
    have c03 : V0.cell? ⟨w.heap.size, 3, none⟩ = some (.int .i64 f) := (S0.out.old AN1.out).cell 3
    have c04 : V0.cell? ⟨w.heap.size, 4, none⟩ = some (.int .i64 t) := (S0.out.old AN1.out).cell 4
    go_wp2_with fail
    go_ret2
    exact ⟨_, by rw [HE.out]; rfl, by rw [HV.out]; exact OX.out, BX.out⟩
  rw [hq0] at T0
  cases hq1 : clB a l u f t
  · rw [hq1] at T1
    have HE := Lib.hid (show lcB zs n a l u f t = false by unfold lcB; rw [hq1, Bool.and_false])
    clear h1 hq0 hq1
    go_enter Try.func20, Try.ntmps20
    go_wp2_with fail
    generalize ((w.alloc (.cells #[.int .i64 a, .int .i64 l, .int .i64 u, .int .i64 f, .int .i64 t] 26)).alloc (.cells #[] 3)) = W0 at *
    have AN0 := Lib.hid (Below.refl W0.heap.size W0)
    refine (T0.out W0 (S0.out.1.trans (AN0.out.mono S0.out.1.size))).mono ?_
    rintro e V0 ⟨rfl, hb⟩
    have AN1 := Lib.hid (AN0.out.trans (hb.mono AN0.out.size))
    clear hb
    have c00 : V0.cell? ⟨w.heap.size, 0, none⟩ = some (.int .i64 a) := (S0.out.old AN1.out).cell 0
    have c01 : V0.cell? ⟨w.heap.size, 1, none⟩ = some (.int .i64 l) := (S0.out.old AN1.out).cell 1
    have c02 : V0.cell? ⟨w.heap.size, 2, none⟩ = some (.int .i64 u) := (S0.out.old AN1.out).cell 2
    have c03 : V0.cell? ⟨w.heap.size, 3, none⟩ = some (.int .i64 f) := (S0.out.old AN1.out).cell 3
    have c04 : V0.cell? ⟨w.heap.size, 4, none⟩ = some (.int .i64 t) := (S0.out.old AN1.out).cell 4
    go_wp2_with fail
    clear c00 c01 c02 c03 c04
    refine (T1.out V0).mono ?_
    rintro e V1 ⟨rfl, hb⟩
    have AN2 := Lib.hid (AN1.out.trans (hb.mono AN1.out.size))
    clear hb
    have HV := Lib.hid (lcV_no HE.out)
    have BX := Lib.hid (S0.out.1.trans (AN2.out.mono S0.out.1.size))
    have OX := Lib.hid (own_at (S1.out.old AN2.out) (s := 1))
    have c00 : V1.cell? ⟨w.heap.size, 0, none⟩ = some (.int .i64 a) := (S0.out.old AN2.out).cell 0
    have c01 : V1.cell? ⟨w.heap.size, 1, none⟩ = some (.int .i64 l) := (S0.out.old AN2.out).cell 1
    have c02 : V1.cell? ⟨w.heap.size, 2, none⟩ = some (.int .i64 u) := (S0.out.old AN2.out).cell 2
    have c03 : V1.cell? ⟨w.heap.size, 3, none⟩ = some (.int .i64 f) := (S0.out.old AN2.out).cell 3
    have c04 : V1.cell? ⟨w.heap.size, 4, none⟩ = some (.int .i64 t) := (S0.out.old AN2.out).cell 4
    go_wp2_with fail
    go_ret2
    exact ⟨_, by rw [HE.out]; rfl, by rw [HV.out]; exact OX.out, BX.out⟩
  rw [hq1] at T1
  have HE := Lib.hid (show lcB zs n a l u f t = true by unfold lcB; rw [hq0, hq1]; rfl)
  have HV := Lib.hid (lcV_yes HE.out)
  have HR := Lib.hid h1
  clear hq0 hq1 h1
  go_enter Try.func20, Try.ntmps20
  go_wp2_with fail
  generalize ((w.alloc (.cells #[.int .i64 a, .int .i64 l, .int .i64 u, .int .i64 f, .int .i64 t] 26)).alloc (.cells #[] 3)) = W0 at *
  have AN0 := Lib.hid (Below.refl W0.heap.size W0)
  refine (T0.out W0 (S0.out.1.trans (AN0.out.mono S0.out.1.size))).mono ?_
  rintro e V0 ⟨rfl, hb⟩
  have AN1 := Lib.hid (AN0.out.trans (hb.mono AN0.out.size))
  clear hb
  have c00 : V0.cell? ⟨w.heap.size, 0, none⟩ = some (.int .i64 a) := (S0.out.old AN1.out).cell 0
  have c01 : V0.cell? ⟨w.heap.size, 1, none⟩ = some (.int .i64 l) := (S0.out.old AN1.out).cell 1
  have c02 : V0.cell? ⟨w.heap.size, 2, none⟩ = some (.int .i64 u) := (S0.out.old AN1.out).cell 2
  have c03 : V0.cell? ⟨w.heap.size, 3, none⟩ = some (.int .i64 f) := (S0.out.old AN1.out).cell 3
  have c04 : V0.cell? ⟨w.heap.size, 4, none⟩ = some (.int .i64 t) := (S0.out.old AN1.out).cell 4
  go_wp2_with fail
  clear c00 c01 c02 c03 c04
  refine (T1.out V0).mono ?_
  rintro e V1 ⟨rfl, hb⟩
  have AN2 := Lib.hid (AN1.out.trans (hb.mono AN1.out.size))
  clear hb
  have B1 := Lib.hid (S0.out.1.trans (AN2.out.mono S0.out.1.size))
  have S2 := Lib.hid (S0.out.old AN2.out)
  have O1 := Lib.hid (own_at (S1.out.old AN2.out) (s := 1))
  clear S0 S1
  go_wp2_with fail
  go_loopw [6, 7] (fun q i wr => ∃ k : Nat, k ≤ n ∧ i = .int .i64 k ∧ wr.ownsRow w.heap.size 3 1 q (lcT zs a l u f t k).length (cellsI (lcT zs a l u f t k)) ∧ Below V1.heap.size V1 wr) (fun _ i _ => n - (intOf i).toNat)
  case atStart => exact ⟨0, Nat.zero_le _, rfl, O1.out, Below.refl _ _⟩
  case round =>
    obtain ⟨k, hk, rfl, hO, hb⟩ := hrel
    by_cases hlt : k < n
    · have HBW := Lib.hid (B1.out.trans (hb.mono B1.out.size))
      obtain ⟨b1, o1, rfl, l1, p0, p1, p2, p3, p4⟩ := cellsE (HR.out.below HBW.out (Nat.le_refl _)) hlt
      have hlt2 : (k : Int) < (n : Int) := by omega
      have HLT := Lib.hid hlt
      have HO := Lib.hid hO
      have HB := Lib.hid hb
      have SB := Lib.hid (S2.out.old hb)
      have hlen := lcT_length zs a l u f t k
      have HYk := Lib.hid (show cfB (fld 5 zs k 0) (fld 5 zs k 1) (fld 5 zs k 2) (fld 5 zs k 3) (fld 5 zs k 4) a l u f t = true → _ from lcT_yes (zs := zs) (a := a) (l := l) (u := u) (f := f) (t := t) (k := k))
      have HNk := Lib.hid (show cfB (fld 5 zs k 0) (fld 5 zs k 1) (fld 5 zs k 2) (fld 5 zs k 3) (fld 5 zs k 4) a l u f t = false → _ from lcT_not (zs := zs) (a := a) (l := l) (u := u) (f := f) (t := t) (k := k))
      have D1 := Lib.hid (fun W d0 os => Calls.regrown_of (conflict18 (fld 5 zs k 0) (fld 5 zs k 1) (fld 5 zs k 2) (fld 5 zs k 3) (fld 5 zs k 4) a l u f t (Sort.grow (redrawn W d0) os)))
      have P0 := Lib.hid (((p0)))
      have PC := Lib.hid (fun (L : List Int) y u m W (hm : L.length = m) (hn' : m ≤ 1048576) (hB : w.heap.size ≤ W.heap.size) h => putA w.heap.size L y u m W hm hn' hB h)
      clear hO hb hlt
      generalize cfB (fld 5 zs k 0) (fld 5 zs k 1) (fld 5 zs k 2) (fld 5 zs k 3) (fld 5 zs k 4) a l u f t = pb at *
      generalize lcT zs a l u f t k = L at *
      generalize fld 5 zs k 0 = u0 at *
      generalize fld 5 zs k 1 = u1 at *
      generalize fld 5 zs k 2 = u2 at *
      generalize fld 5 zs k 3 = u3 at *
      generalize fld 5 zs k 4 = u4 at *
      have c00 : wr.cell? ⟨w.heap.size, 0, none⟩ = some (.int .i64 a) := SB.out.cell 0
      have c01 : wr.cell? ⟨w.heap.size, 1, none⟩ = some (.int .i64 l) := SB.out.cell 1
      have c02 : wr.cell? ⟨w.heap.size, 2, none⟩ = some (.int .i64 u) := SB.out.cell 2
      have c03 : wr.cell? ⟨w.heap.size, 3, none⟩ = some (.int .i64 f) := SB.out.cell 3
      have c04 : wr.cell? ⟨w.heap.size, 4, none⟩ = some (.int .i64 t) := SB.out.cell 4
      have LBW := Lib.hid (Nat.lt_of_lt_of_le l1 HBW.out.size)
      have hbs := HBW.out.size
      cases pb
      · have HE := Lib.hid (HNk.out rfl)
        clear HYk HNk PC P0
        go_upto_region 7 with fail
        have p0' := fun d0 os => cell_regrown p0 d0 os
        have p1' := fun d0 os => cell_regrown p1 d0 os
        have p2' := fun d0 os => cell_regrown p2 d0 os
        have p3' := fun d0 os => cell_regrown p3 d0 os
        have p4' := fun d0 os => cell_regrown p4 d0 os
        have c00' := fun d0 os => cell_regrown c00 d0 os
        have c01' := fun d0 os => cell_regrown c01 d0 os
        have c02' := fun d0 os => cell_regrown c02 d0 os
        have c03' := fun d0 os => cell_regrown c03 d0 os
        have c04' := fun d0 os => cell_regrown c04 d0 os
        clear p0 p1 p2 p3 p4 c00 c01 c02 c03 c04
        refine wp_region_quiet_below (by kernel_rfl) (by kernel_rfl) ?_
        repeat (
          with_reducible refine wpQuiet_step (fun K hK => ?_)
          go_simp
          first
            | (refine hK _ ?_; clear hK K)
            | (apply Exists.intro
               refine ⟨fun _ => ?_, hK _ ?_⟩
               (first
                 | (go_at_call 61; with_reducible exact D1.out _ _ _))
               clear hK K))
        with_reducible refine wpQuiet_nil ?_
        intro _ hw'
        obtain ⟨⟨dq, osq⟩, hw''⟩ := hw'
        subst hw''
        have hbl := (below_regrown wr dq osq)
        clear p0' p1' p2' p3' p4' c00' c01' c02' c03' c04'
        generalize Sort.grow (redrawn wr dq) osq = w3 at *
        have O3 := Lib.hid (own_.own_below HO.out hbl)
        have B3 := Lib.hid (HB.out.trans (hbl.mono HB.out.size))
        clear hbl
        go_wp2_with fail
        go_roundw
        case rel => exact ⟨k + 1, by have := HLT.out; omega, by go_num, by rw [HE.out]; exact O3.out, B3.out⟩
        case measure => have := HLT.out; simp [intOf]; omega
      · have HE := Lib.hid (HYk.out rfl)
        clear HYk HNk
        go_upto_region 7 with fail
        have p0' := fun d0 os => cell_regrown p0 d0 os
        have p1' := fun d0 os => cell_regrown p1 d0 os
        have p2' := fun d0 os => cell_regrown p2 d0 os
        have p3' := fun d0 os => cell_regrown p3 d0 os
        have p4' := fun d0 os => cell_regrown p4 d0 os
        have c00' := fun d0 os => cell_regrown c00 d0 os
        have c01' := fun d0 os => cell_regrown c01 d0 os
        have c02' := fun d0 os => cell_regrown c02 d0 os
        have c03' := fun d0 os => cell_regrown c03 d0 os
        have c04' := fun d0 os => cell_regrown c04 d0 os
        clear p0 p1 p2 p3 p4 c00 c01 c02 c03 c04
        refine wp_region_quiet_below (by kernel_rfl) (by kernel_rfl) ?_
        repeat (
          with_reducible refine wpQuiet_step (fun K hK => ?_)
          go_simp
          first
            | (refine hK _ ?_; clear hK K)
            | (apply Exists.intro
               refine ⟨fun _ => ?_, hK _ ?_⟩
               (first
                 | (go_at_call 61; with_reducible exact D1.out _ _ _))
               clear hK K))
        with_reducible refine wpQuiet_nil ?_
        intro _ hw'
        obtain ⟨⟨dq, osq⟩, hw''⟩ := hw'
        subst hw''
        have hbl := (below_regrown wr dq osq)
        clear p0' p1' p2' p3' p4' c00' c01' c02' c03' c04'
        generalize Sort.grow (redrawn wr dq) osq = w3 at *
        have O3 := Lib.hid (own_.own_below HO.out hbl)
        have B3 := Lib.hid (HB.out.trans (hbl.mono HB.out.size))
        have p0 : w3.cell? ⟨b1, o1 + k * 5, none⟩ = some (.int .i64 u0) := (hbl.cell (p := ⟨b1, o1 + k * 5, none⟩) LBW.out).trans P0.out
        have hs3 := hbl.size
        clear hbl
        go_wp2_with fail
        refine (PC.out L u0 _ _ w3 rfl (by omega) (by omega) O3.out).mono ?_
        rintro e w4 ⟨v4, rfl, ho4, hb4⟩
        have O4 := Lib.hid ho4
        have B4 := Lib.hid (B3.out.trans (hb4.mono B3.out.size))
        clear ho4 hb4 p0
        go_wp2_with fail
        go_roundw
        case rel => exact ⟨k + 1, by have := HLT.out; omega, by go_num, by rw [HE.out]; exact O4.out, B4.out⟩
        case measure => have := HLT.out; simp [intOf]; omega
    · obtain rfl : k = n := by omega
      have HO := Lib.hid hO
      have BX := Lib.hid (B1.out.trans (hb.mono B1.out.size))
      clear hO hb hlt HR
      go_wp2_with fail
      go_ret2
      exact ⟨_, by rw [HE.out]; rfl, by rw [HV.out]; exact HO.out, BX.out⟩

set_option maxRecDepth 100000 in
set_option maxHeartbeats 4000000 in
theorem freeLevels (zs : List Int) (a f t : Int) (A : Option Addr) (n c : Nat) (w : World) (_hc : n ≤ c) (hn : n ≤ 1048576) (h1 : RdZ 5 w w.heap.size A n zs) :
    Calls Try.prog 31 #[.slice A n c, .int .i64 a, .int .i64 f, .int .i64 t] w fun e w' => ∃ v, e = .returned (.tuple #[v, .bool (frB zs n a f t)]) ∧ w'.ownsRow w.heap.size 3 1 v (frV zs n a f t).length (cellsI (frV zs n a f t)) ∧ Below w.heap.size w w' := by
  have S0 := Lib.hid (newS 3 #[] w)
  have T0 := Lib.hid (fun (W : World) (hb : Below w.heap.size w W) => good18 zs A n c W (by omega) (h1.next hb))
  have T1 := Lib.hid (fun W => address13 a W)
  have T2 := Lib.hid (fun W => minutes18 f t W)
  cases hq0 : cvB zs n
  · rw [hq0] at T0
    have HE := Lib.hid (show frB zs n a f t = false by unfold frB; rw [hq0]; rfl)
    clear h1 hq0
    go_enter Try.func31, Try.ntmps31
    go_wp2_with fail
    generalize (w.alloc (.cells #[] 3)) = W0 at *
    have AN0 := Lib.hid (Below.refl W0.heap.size W0)
    refine (T0.out W0 (S0.out.1.trans (AN0.out.mono S0.out.1.size))).mono ?_
    rintro e V0 ⟨rfl, hb⟩
    have AN1 := Lib.hid (AN0.out.trans (hb.mono AN0.out.size))
    clear hb
    have HV := Lib.hid (frV_no HE.out)
    have BX := Lib.hid (S0.out.1.trans (AN1.out.mono S0.out.1.size))
    have OX := Lib.hid (own_at (S0.out.old AN1.out) (s := 1))
    go_wp2_with fail
    go_ret2
    exact ⟨_, by rw [HE.out]; rfl, by rw [HV.out]; exact OX.out, BX.out⟩
  rw [hq0] at T0
  cases hq1 : isIn a 1 65535
  · rw [hq1] at T1
    have HE := Lib.hid (show frB zs n a f t = false by unfold frB; rw [hq1, Bool.false_and, Bool.and_false])
    clear h1 hq0 hq1
    go_enter Try.func31, Try.ntmps31
    go_wp2_with fail
    generalize (w.alloc (.cells #[] 3)) = W0 at *
    have AN0 := Lib.hid (Below.refl W0.heap.size W0)
    refine (T0.out W0 (S0.out.1.trans (AN0.out.mono S0.out.1.size))).mono ?_
    rintro e V0 ⟨rfl, hb⟩
    have AN1 := Lib.hid (AN0.out.trans (hb.mono AN0.out.size))
    clear hb
    go_wp2_with fail
    refine (T1.out V0).mono ?_
    rintro e w' ⟨rfl, rfl⟩
    have HV := Lib.hid (frV_no HE.out)
    have BX := Lib.hid (S0.out.1.trans (AN1.out.mono S0.out.1.size))
    have OX := Lib.hid (own_at (S0.out.old AN1.out) (s := 1))
    go_wp2_with fail
    go_ret2
    exact ⟨_, by rw [HE.out]; rfl, by rw [HV.out]; exact OX.out, BX.out⟩
  rw [hq1] at T1
  cases hq2 : mnB f t
  · rw [hq2] at T2
    have HE := Lib.hid (show frB zs n a f t = false by unfold frB; rw [hq2, Bool.and_false, Bool.and_false])
    clear h1 hq0 hq1 hq2
    go_enter Try.func31, Try.ntmps31
    go_wp2_with fail
    generalize (w.alloc (.cells #[] 3)) = W0 at *
    have AN0 := Lib.hid (Below.refl W0.heap.size W0)
    refine (T0.out W0 (S0.out.1.trans (AN0.out.mono S0.out.1.size))).mono ?_
    rintro e V0 ⟨rfl, hb⟩
    have AN1 := Lib.hid (AN0.out.trans (hb.mono AN0.out.size))
    clear hb
    go_wp2_with fail
    refine (T1.out V0).mono ?_
    rintro e w' ⟨rfl, rfl⟩
    go_wp2_with fail
    refine (T2.out V0).mono ?_
    rintro e w' ⟨rfl, rfl⟩
    have HV := Lib.hid (frV_no HE.out)
    have BX := Lib.hid (S0.out.1.trans (AN1.out.mono S0.out.1.size))
    have OX := Lib.hid (own_at (S0.out.old AN1.out) (s := 1))
    go_wp2_with fail
    go_ret2
    exact ⟨_, by rw [HE.out]; rfl, by rw [HV.out]; exact OX.out, BX.out⟩
  rw [hq2] at T2
  have HE := Lib.hid (show frB zs n a f t = true by unfold frB; rw [hq0, hq1, hq2]; rfl)
  have HV := Lib.hid (frV_yes HE.out)
  have HR := Lib.hid h1
  clear hq0 hq1 hq2 h1
  obtain ⟨i0, hi, hz0, hz1, hz2⟩ := info_parts infoI
  go_enter Try.func31, Try.ntmps31
  go_wp2_with fail
  generalize (w.alloc (.cells #[] 3)) = W0 at *
  have AN0 := Lib.hid (Below.refl W0.heap.size W0)
  refine (T0.out W0 (S0.out.1.trans (AN0.out.mono S0.out.1.size))).mono ?_
  rintro e V0 ⟨rfl, hb⟩
  have AN1 := Lib.hid (AN0.out.trans (hb.mono AN0.out.size))
  clear hb
  go_wp2_with fail
  refine (T1.out V0).mono ?_
  rintro e w' ⟨rfl, rfl⟩
  go_wp2_with fail
  refine (T2.out V0).mono ?_
  rintro e w' ⟨rfl, rfl⟩
  have B1 := Lib.hid (S0.out.1.trans (AN1.out.mono S0.out.1.size))
  have O1 := Lib.hid (own_at (S0.out.old AN1.out) (s := 1))
  clear S0
  go_wp2_with fail
  go_loopw [10, 11] (fun q i wr => ∃ j : Nat, j ≤ 41 ∧ i = .int .i64 (lev j) ∧ wr.ownsRow w.heap.size 3 1 q (frT zs n a f t j).length (cellsI (frT zs n a f t j)) ∧ Below w.heap.size w wr) (fun _ i _ => (430 - intOf i).toNat)
  case atStart => exact ⟨0, by omega, rfl, O1.out, B1.out⟩
  case round =>
    obtain ⟨j, hj, rfl, hO, hb⟩ := hrel
    by_cases hlt : j < 41
    · have hlen := frT_length zs n a f t j
      have HYj := Lib.hid (frT_yes (zs := zs) (n := n) (a := a) (f := f) (t := t) (j := j))
      have HNj := Lib.hid (frT_not (zs := zs) (n := n) (a := a) (f := f) (t := t) (j := j))
      have HLJ := Lib.hid (show lev (j + 1) = lev j + 10 by unfold lev; omega)
      have hl1 : lev j ≤ 410 := by unfold lev; omega
      have hl2 : 10 ≤ lev j := by unfold lev; omega
      have HJ := Lib.hid hlt
      have HO := Lib.hid (hO.alloc (.cells #[.int .i64 a, .int .i64 (lev j), .int .i64 (lev j), .int .i64 f, .int .i64 t] 26))
      have HBA := Lib.hid (hb.alloc hb.size (.cells #[.int .i64 a, .int .i64 (lev j), .int .i64 (lev j), .int .i64 f, .int .i64 t] 26))
      have SA := Lib.hid (newS 26 #[.int .i64 a, .int .i64 (lev j), .int .i64 (lev j), .int .i64 f, .int .i64 t] wr)
      clear hO hb hj hlt
      generalize frT zs n a f t j = L at *
      generalize lev j = q at *
      go_upto_region 8 with fail
      generalize wr.alloc (.cells #[.int .i64 a, .int .i64 q, .int .i64 q, .int .i64 f, .int .i64 t] 26) = WA at *
      generalize wr.heap.size = bx at *
      go_wp2_with fail
      go_loopw [13, 14] (fun b i wr => ∃ k : Nat, k ≤ n ∧ i = .int .i64 k ∧ b = .bool (noT zs a q q f t k) ∧ Below WA.heap.size WA wr) (fun _ i _ => n - (intOf i).toNat)
      case atStart => exact ⟨0, Nat.zero_le _, rfl, rfl, Below.refl _ _⟩
      case round =>
        obtain ⟨k, hk, rfl, rfl, hb⟩ := hrel
        by_cases hlt : k < n
        · have HBW := Lib.hid (HBA.out.trans (hb.mono HBA.out.size))
          obtain ⟨b1, o1, rfl, l1, p0, p1, p2, p3, p4⟩ := cellsE (HR.out.below HBW.out (Nat.le_refl _)) hlt
          have hlt2 : (k : Int) < (n : Int) := by omega
          have HLT := Lib.hid hlt
          have HB := Lib.hid hb
          have SB := Lib.hid (SA.out.old hb)
          have HNN := Lib.hid (show noT zs a q q f t (k + 1) = (noT zs a q q f t k && !cfB (fld 5 zs k 0) (fld 5 zs k 1) (fld 5 zs k 2) (fld 5 zs k 3) (fld 5 zs k 4) a q q f t) from rfl)
          have D1 := Lib.hid (fun W d0 os => Calls.regrown_of (conflict18 (fld 5 zs k 0) (fld 5 zs k 1) (fld 5 zs k 2) (fld 5 zs k 3) (fld 5 zs k 4) a q q f t (Sort.grow (redrawn W d0) os)))
          clear hb hlt
          generalize cfB (fld 5 zs k 0) (fld 5 zs k 1) (fld 5 zs k 2) (fld 5 zs k 3) (fld 5 zs k 4) a q q f t = pb at *
          generalize noT zs a q q f t k = nb at *
          generalize fld 5 zs k 0 = u0 at *
          generalize fld 5 zs k 1 = u1 at *
          generalize fld 5 zs k 2 = u2 at *
          generalize fld 5 zs k 3 = u3 at *
          generalize fld 5 zs k 4 = u4 at *
          have c00 : wr.cell? ⟨bx, 0, none⟩ = some (.int .i64 a) := SB.out.cell 0
          have c01 : wr.cell? ⟨bx, 1, none⟩ = some (.int .i64 q) := SB.out.cell 1
          have c02 : wr.cell? ⟨bx, 2, none⟩ = some (.int .i64 q) := SB.out.cell 2
          have c03 : wr.cell? ⟨bx, 3, none⟩ = some (.int .i64 f) := SB.out.cell 3
          have c04 : wr.cell? ⟨bx, 4, none⟩ = some (.int .i64 t) := SB.out.cell 4
          cases nb
          · have HT := Lib.hid (show noT zs a q q f t (k + 1) = false by rw [HNN.out]; rfl)
            clear HNN p0 p1 p2 p3 p4 c00 c01 c02 c03 c04
            go_upto_region 12 with fail
            refine wp_region_quiet_below (by kernel_rfl) (by kernel_rfl) ?_
            repeat (
              with_reducible refine wpQuiet_step (fun K hK => ?_)
              go_simp
              refine hK _ ?_; clear hK K)
            with_reducible refine wpQuiet_nil ?_
            intro _ hw'
            obtain ⟨⟨dq, osq⟩, hw''⟩ := hw'
            subst hw''
            have hbl := (below_regrown wr dq osq)
            generalize Sort.grow (redrawn wr dq) osq = w3 at *
            have B3 := Lib.hid (HB.out.trans (hbl.mono HB.out.size))
            clear hbl
            go_wp2_with fail
            go_roundw
            case rel => exact ⟨k + 1, by have := HLT.out; omega, by go_num, by rw [HT.out], B3.out⟩
            case measure => have := HLT.out; simp [intOf]; omega
          · have HT := Lib.hid (show noT zs a q q f t (k + 1) = !pb by rw [HNN.out]; rfl)
            clear HNN
            go_upto_region 12 with fail
            have p0' := fun d0 os => cell_regrown p0 d0 os
            have p1' := fun d0 os => cell_regrown p1 d0 os
            have p2' := fun d0 os => cell_regrown p2 d0 os
            have p3' := fun d0 os => cell_regrown p3 d0 os
            have p4' := fun d0 os => cell_regrown p4 d0 os
            have c00' := fun d0 os => cell_regrown c00 d0 os
            have c01' := fun d0 os => cell_regrown c01 d0 os
            have c02' := fun d0 os => cell_regrown c02 d0 os
            have c03' := fun d0 os => cell_regrown c03 d0 os
            have c04' := fun d0 os => cell_regrown c04 d0 os
            clear p0 p1 p2 p3 p4 c00 c01 c02 c03 c04
            refine wp_region_quiet_below (by kernel_rfl) (by kernel_rfl) ?_
            repeat (
              with_reducible refine wpQuiet_step (fun K hK => ?_)
              go_simp
              first
                | (refine hK _ ?_; clear hK K)
                | (apply Exists.intro
                   refine ⟨fun _ => ?_, hK _ ?_⟩
                   (first
                     | (go_at_call 61; with_reducible exact D1.out _ _ _))
                   clear hK K))
            with_reducible refine wpQuiet_nil ?_
            intro _ hw'
            obtain ⟨⟨dq, osq⟩, hw''⟩ := hw'
            subst hw''
            have hbl := (below_regrown wr dq osq)
            clear p0' p1' p2' p3' p4' c00' c01' c02' c03' c04'
            generalize Sort.grow (redrawn wr dq) osq = w3 at *
            have B3 := Lib.hid (HB.out.trans (hbl.mono HB.out.size))
            clear hbl
            go_wp2_with fail
            go_roundw
            case rel => exact ⟨k + 1, by have := HLT.out; omega, by go_num, by rw [HT.out], B3.out⟩
            case measure => have := HLT.out; simp [intOf]; omega
        · obtain rfl : k = n := by omega
          have O3 := Lib.hid (own_.own_below HO.out hb)
          have B3 := Lib.hid (HBA.out.trans (hb.mono HBA.out.size))
          have hsz := B3.out.size
          clear hb hlt
          cases hno : noT zs a q q f t k
          · have HT := Lib.hid (HNj.out hno)
            clear HYj HNj hno
            go_wp2_with fail
            go_roundw
            case rel => exact ⟨j + 1, by have := HJ.out; omega, by rw [HLJ.out], by rw [HT.out]; exact O3.out, B3.out⟩
            case measure => simp [intOf]; omega
          · have HT := Lib.hid (HYj.out hno)
            clear HYj HNj hno
            go_wp2_with (at_builtin; (refine wpList_append_own _ rfl (.tmp 58) (.tmp 60) 32 rfl w.heap.size 3 i0 (.int .i64 0) 1 8 Try.underlying32 hi hz0 hz1 hz2 rfl (by decide) _ L.length (cellsI L) rfl (O3.out.alloc _) ⟨wr.heap.size, 0, none⟩ 1 1 [.int .i64 q] rfl rfl (cell_one_new _ _ _) (own_.one_cell _ rfl) (by unfold maxLen; have := HJ.out; omega) (by have := HJ.out; omega) (by simp; omega) ?_; intro v' w4 hown' hgrow hnil))
            have HB' := Lib.hid (own_.below_append B3.out O3.out hsz hgrow)
            have HO' := Lib.hid (own_app hown')
            clear hown' hgrow hnil
            go_roundw
            case rel => exact ⟨j + 1, by have := HJ.out; omega, by rw [HLJ.out], by rw [HT.out]; exact HO'.out, HB'.out⟩
            case measure => simp [intOf]; omega
    · obtain rfl : j = 41 := by omega
      have hl1 : ¬ lev 41 ≤ 410 := by unfold lev; omega
      have HO := Lib.hid hO
      have HB := Lib.hid hb
      clear hO hb hlt
      generalize lev 41 = q at *
      go_wp2_with fail
      go_ret2
      exact ⟨_, by rw [HE.out]; rfl, by rw [HV.out]; exact HO.out, HB.out⟩

theorem at_in {zs : List Int} {a m : Int} {k : Nat} : atK zs a m k = (decide (fld 5 zs k 0 = a) && isIn m (fld 5 zs k 3) (fld 5 zs k 4 - 1)) := by
  unfold atK isIn
  congr 1
  rw [Bool.eq_iff_iff]
  simp only [Bool.and_eq_true, decide_eq_true_eq]
  omega
set_option maxRecDepth 100000 in
set_option maxHeartbeats 4000000 in
theorem clearedAt (zs : List Int) (a m : Int) (A : Option Addr) (n c : Nat) (w : World) (_hc : n ≤ c) (hn : n ≤ 1048576) (h1 : RdZ 5 w w.heap.size A n zs) :
    Calls Try.prog 28 #[.slice A n c, .int .i64 a, .int .i64 m] w fun e w' => e = .returned (.tuple #[.int .i64 (caL zs n a m), .int .i64 (caU zs n a m), .bool (caB zs n a m)]) ∧ Below w.heap.size w w' := by
  have T0 := Lib.hid (fun (W : World) (hb : Below w.heap.size w W) => good18 zs A n c W (by omega) (h1.next hb))
  have T1 := Lib.hid (fun W => address13 a W)
  have T2 := Lib.hid (fun W => l1In m 0 1439 W)
  cases hq0 : cvB zs n
  · rw [hq0] at T0
    have HE := Lib.hid (show caB zs n a m = false from caB_no hq0)
    clear h1 hq0
    go_enter Try.func28, Try.ntmps28
    go_wp2_with fail
    have AN0 := Lib.hid (Below.refl w.heap.size w)
    refine (T0.out w AN0.out).mono ?_
    rintro e V0 ⟨rfl, hb⟩
    have AN1 := Lib.hid (AN0.out.trans (hb.mono AN0.out.size))
    clear hb
    have BX := Lib.hid AN1.out
    have H1 := Lib.hid (caL_no HE.out)
    have H2 := Lib.hid (caU_no HE.out)
    go_wp2_with fail
    go_ret3
    exact ⟨by rw [HE.out, H1.out, H2.out]; rfl, BX.out⟩
  rw [hq0] at T0
  cases hq1 : isIn a 1 65535
  · rw [hq1] at T1
    have HE := Lib.hid (show caB zs n a m = false from caB_addr hq1)
    clear h1 hq0 hq1
    go_enter Try.func28, Try.ntmps28
    go_wp2_with fail
    have AN0 := Lib.hid (Below.refl w.heap.size w)
    refine (T0.out w AN0.out).mono ?_
    rintro e V0 ⟨rfl, hb⟩
    have AN1 := Lib.hid (AN0.out.trans (hb.mono AN0.out.size))
    clear hb
    go_wp2_with fail
    refine (T1.out V0).mono ?_
    rintro e w' ⟨rfl, rfl⟩
    have BX := Lib.hid AN1.out
    have H1 := Lib.hid (caL_no HE.out)
    have H2 := Lib.hid (caU_no HE.out)
    go_wp2_with fail
    go_ret3
    exact ⟨by rw [HE.out, H1.out, H2.out]; rfl, BX.out⟩
  rw [hq1] at T1
  cases hq2 : isIn m 0 1439
  · rw [hq2] at T2
    have HE := Lib.hid (show caB zs n a m = false from caB_min hq2)
    clear h1 hq0 hq1 hq2
    go_enter Try.func28, Try.ntmps28
    go_wp2_with fail
    have AN0 := Lib.hid (Below.refl w.heap.size w)
    refine (T0.out w AN0.out).mono ?_
    rintro e V0 ⟨rfl, hb⟩
    have AN1 := Lib.hid (AN0.out.trans (hb.mono AN0.out.size))
    clear hb
    go_wp2_with fail
    refine (T1.out V0).mono ?_
    rintro e w' ⟨rfl, rfl⟩
    go_wp2_with fail
    refine (T2.out V0).mono ?_
    rintro e w' ⟨rfl, rfl⟩
    have BX := Lib.hid AN1.out
    have H1 := Lib.hid (caL_no HE.out)
    have H2 := Lib.hid (caU_no HE.out)
    go_wp2_with fail
    go_ret3
    exact ⟨by rw [HE.out, H1.out, H2.out]; rfl, BX.out⟩
  rw [hq2] at T2
  have HC := Lib.hid hq0
  have HR := Lib.hid h1
  clear hq0 hq1 hq2 h1
  go_enter Try.func28, Try.ntmps28
  go_wp2_with fail
  have AN0 := Lib.hid (Below.refl w.heap.size w)
  refine (T0.out w AN0.out).mono ?_
  rintro e V0 ⟨rfl, hb⟩
  have AN1 := Lib.hid (AN0.out.trans (hb.mono AN0.out.size))
  clear hb
  go_wp2_with fail
  refine (T1.out V0).mono ?_
  rintro e w' ⟨rfl, rfl⟩
  go_wp2_with fail
  refine (T2.out V0).mono ?_
  rintro e w' ⟨rfl, rfl⟩
  have B1 := Lib.hid AN1.out
  clear AN1
  go_wp2_with fail
  go_loopw [9] (fun i wr => ∃ k : Nat, k ≤ n ∧ i = .int .i64 k ∧ Below w.heap.size w wr ∧ fsT (atK zs a m) k = k) (fun i _ => n - (intOf i).toNat)
  case atStart => exact ⟨0, Nat.zero_le _, rfl, B1.out, rfl⟩
  case round =>
    obtain ⟨k, hk, rfl, hb, hfs⟩ := hrel
    by_cases hlt : k < n
    · obtain ⟨b1, o1, rfl, l1, p0, p1, p2, p3, p4⟩ := cellsE (HR.out.below hb (Nat.le_refl _)) hlt
      have hlt2 : (k : Int) < (n : Int) := by omega
      have hpar := cv_parts HC.out hlt
      have e1 : IntKind.i64.wrap (fld 5 zs k 4 - 1) = fld 5 zs k 4 - 1 := IntWalk.i64_in _ (by omega)
      have HYES := Lib.hid (fun h => ca_found (zs := zs) (n := n) (k := k) (a := a) (m := m) HC.out hlt hfs h)
      have HNO := Lib.hid (fun h => fsT_not (p := atK zs a m) (k := k) hfs h)
      have HAT := Lib.hid (show atK zs a m k = (decide (fld 5 zs k 0 = a) && isIn m (fld 5 zs k 3) (fld 5 zs k 4 - 1)) from at_in)
      have D1 := Lib.hid (fun W d0 os => same_regrown (l1In m (fld 5 zs k 3) (fld 5 zs k 4 - 1) (Sort.grow (redrawn W d0) os)))
      have HLT := Lib.hid hlt
      have HB := Lib.hid hb
      have PC := Lib.hid (And.intro p1 p2)
      have LBW := Lib.hid (Nat.lt_of_lt_of_le l1 hb.size)
      clear hb hfs HR HC hlt hpar p1 p2
      generalize atK zs a m k = pb at *
      generalize isIn m (fld 5 zs k 3) (fld 5 zs k 4 - 1) = ib at *
      generalize fld 5 zs k 0 = u0 at *
      generalize fld 5 zs k 1 = u1 at *
      generalize fld 5 zs k 2 = u2 at *
      generalize fld 5 zs k 3 = u3 at *
      generalize fld 5 zs k 4 = u4 at *
      generalize hT : u4 - 1 = T at *
      by_cases g0 : u0 = a
      · have g0b : (u0 == a) = true := beq_iff_eq.mpr g0
        cases ib
        · have HE := Lib.hid (HNO.out (by rw [HAT.out, Bool.and_false]))
          clear g0 HAT HYES HNO
          go_upto_region 6 with fail
          have p0' := fun d0 os => cell_regrown p0 d0 os
          have p3' := fun d0 os => cell_regrown p3 d0 os
          have p4' := fun d0 os => cell_regrown p4 d0 os
          clear p0 p3 p4
          refine wp_region_quiet_below (by kernel_rfl) (by kernel_rfl) ?_
          repeat (
            with_reducible refine wpQuiet_step (fun K hK => ?_)
            go_simp
            first
              | (refine hK _ ?_; clear hK K)
              | (apply Exists.intro
                 refine ⟨fun _ => ?_, hK _ ?_⟩
                 (first
                   | (go_at_call 66; with_reducible exact D1.out _ _ _))
                 clear hK K))
          with_reducible refine wpQuiet_nil ?_
          intro _ hw'
          obtain ⟨⟨dq, osq⟩, hw''⟩ := hw'
          subst hw''
          have hbl := (below_regrown wr dq osq)
          clear p0' p3' p4'
          generalize Sort.grow (redrawn wr dq) osq = w3 at *
          have B3 := Lib.hid (HB.out.trans (hbl.mono HB.out.size))
          clear hbl
          go_wp2_with fail
          go_roundw
          case rel => exact ⟨k + 1, by have := HLT.out; omega, by go_num, B3.out, HE.out⟩
          case measure => have := HLT.out; simp [intOf]; omega
        · have HE := Lib.hid (HYES.out (by rw [HAT.out, decide_eq_true g0]; rfl))
          clear g0 HAT HYES HNO
          go_upto_region 6 with fail
          have p0' := fun d0 os => cell_regrown p0 d0 os
          have p3' := fun d0 os => cell_regrown p3 d0 os
          have p4' := fun d0 os => cell_regrown p4 d0 os
          clear p0 p3 p4
          refine wp_region_quiet_below (by kernel_rfl) (by kernel_rfl) ?_
          repeat (
            with_reducible refine wpQuiet_step (fun K hK => ?_)
            go_simp
            first
              | (refine hK _ ?_; clear hK K)
              | (apply Exists.intro
                 refine ⟨fun _ => ?_, hK _ ?_⟩
                 (first
                   | (go_at_call 66; with_reducible exact D1.out _ _ _))
                 clear hK K))
          with_reducible refine wpQuiet_nil ?_
          intro _ hw'
          obtain ⟨⟨dq, osq⟩, hw''⟩ := hw'
          subst hw''
          have hbl := (below_regrown wr dq osq)
          clear p0' p3' p4'
          generalize Sort.grow (redrawn wr dq) osq = w3 at *
          have B3 := Lib.hid (HB.out.trans (hbl.mono HB.out.size))
          have p1 : w3.cell? ⟨b1, o1 + k * 5 + 1, none⟩ = some (.int .i64 u1) := (hbl.cell (p := ⟨b1, o1 + k * 5 + 1, none⟩) LBW.out).trans PC.out.1
          have p2 : w3.cell? ⟨b1, o1 + k * 5 + 2, none⟩ = some (.int .i64 u2) := (hbl.cell (p := ⟨b1, o1 + k * 5 + 2, none⟩) LBW.out).trans PC.out.2
          clear hbl
          go_wp2_with fail
          go_quiet (fail)
          go_wp2_with fail
          go_ret3
          exact ⟨by rw [HE.out.1, HE.out.2.1, HE.out.2.2]; rfl, by first | exact B3.out | exact aid.below_drewN B3.out _⟩
      · have g0b : (u0 == a) = false := beq_eq_false_iff_ne.mpr g0
        have HE := Lib.hid (HNO.out (by rw [HAT.out, decide_eq_false g0, Bool.false_and]))
        clear g0 HAT HYES HNO p3 p4
        go_upto_region 6 with fail
        have p0' := fun d0 os => cell_regrown p0 d0 os
        clear p0
        refine wp_region_quiet_below (by kernel_rfl) (by kernel_rfl) ?_
        repeat (
          with_reducible refine wpQuiet_step (fun K hK => ?_)
          go_simp
          refine hK _ ?_; clear hK K)
        with_reducible refine wpQuiet_nil ?_
        intro _ hw'
        obtain ⟨⟨dq, osq⟩, hw''⟩ := hw'
        subst hw''
        have hbl := (below_regrown wr dq osq)
        clear p0'
        generalize Sort.grow (redrawn wr dq) osq = w3 at *
        have B3 := Lib.hid (HB.out.trans (hbl.mono HB.out.size))
        clear hbl
        go_wp2_with fail
        go_roundw
        case rel => exact ⟨k + 1, by have := HLT.out; omega, by go_num, B3.out, HE.out⟩
        case measure => have := HLT.out; simp [intOf]; omega
    · obtain rfl : k = n := by omega
      have HE := Lib.hid (ca_none hfs)
      have H1 := Lib.hid (caL_no HE.out)
      have H2 := Lib.hid (caU_no HE.out)
      have BX := Lib.hid hb
      clear hb hfs HR HC hlt
      go_wp2_with fail
      go_ret3
      exact ⟨by rw [HE.out, H1.out, H2.out]; rfl, BX.out⟩

end Go.Proofs.Ytglonedhoenkpaa.lvlu
