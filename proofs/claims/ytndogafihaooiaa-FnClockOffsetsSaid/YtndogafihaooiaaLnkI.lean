/- slices.Grow and slices.Concat (of a list and one link); impl's AddClockLink. -/
import Derived.Test.YtndogafihaooiaaLnkId
import Derived.Shelf.Spec.SlicesGrow
namespace Go.Proofs.Ytndogafihaooiaa.lnki
open Go.RowKit Go.Proofs.Ytndogafihaooiaa.ints Go.Proofs.Ytndogafihaooiaa.lst Go.Proofs.Ytndogafihaooiaa.in_ Go.Proofs.Ytndogafihaooiaa.ats Go.Proofs.Ytndogafihaooiaa.lnk Go.Proofs.Ytndogafihaooiaa.lnks Go.Proofs.Ytndogafihaooiaa.lnkw Go.Proofs.Ytndogafihaooiaa.lnkx Go.Proofs.Ytndogafihaooiaa.lnkp Go.Proofs.Ytndogafihaooiaa.lnka Go.Proofs.Ytndogafihaooiaa.ins

def ren : Go.Shelf.Ren := ⟨fun | 4 => 97 | n => n, fun | 22 => 42 | 25 => 50 | 3 => 3 | 4 => 4 | 9 => 9 | 20 => 20 | n => n, fun | n => n⟩
theorem grows : Go.Proofs.Lays8.n4 Try.prog ren := {
  mixed := by kernel_rfl
  f4 := ⟨ "slices.Grow[[]loop.example/g00875/impl.ClockLink,loop.example/g00875/impl.ClockLink]", by decide, Try.func97.trans (congrArg some (by kernel_rfl))⟩
  t0 := Try.underlying0
  a0 := Try.isAgg0
  z0 := Try.sizeOf0
  v0 := Try.zeroValue0
  t3 := Try.underlying3
  a3 := Try.isAgg3
  z3 := Try.sizeOf3
  v3 := Try.zeroValue3
  t4 := Try.underlying4
  a4 := Try.isAgg4
  z4 := Try.sizeOf4
  v4 := Try.zeroValue4
  t9 := Try.underlying9
  a9 := Try.isAgg9
  z9 := Try.sizeOf9
  v9 := Try.zeroValue9
  t20 := Try.underlying20
  a20 := Try.isAgg20
  z20 := Try.sizeOf20
  v20 := Try.zeroValue20
  t22 := Try.underlying42
  a22 := Try.isAgg42
  z22 := Try.sizeOf42
  v22 := Try.zeroValue42 }

theorem growL (n : Nat) (w : World) (h0 : 0 < n) (h1 : n ≤ 1048576) :
    Calls Try.prog 97 #[.slice none 0 0, .int .i64 (n : Int)] w fun e w' => ∃ v, e = .returned v ∧ w'.ownsRow w.heap.size 50 3 v 0 [] ∧ Below w.heap.size w w' := by
  obtain ⟨i0, hi, hz0, hz1, hz2⟩ := info_parts infoL
  refine (Any8.slices_Grow_grow grows i0 _ hi hz0 (by omega) none 0 0 n [] w (Nat.le_refl _) (by omega) (by rw [hz2]; omega) (by omega) (by simp) (fun _ => rfl) (fun a e => by cases e)).mono ?_
  rintro e w' ⟨rfl, rfl⟩
  refine ⟨_, rfl, ⟨rfl, .inr ⟨w.heap.size, _, _, rfl, Nat.le_refl _, heap_alloc_new w.drew _, Nat.zero_le _, grownCap_le_maxLen w _ _ _ (by unfold maxLen; omega), ?_, rfl⟩⟩, (Below.refl _ _).drew.alloc (Nat.le_refl _) _⟩
  have hge := grownCap_ge w (0 + n) 0 (ren.t 25)
  show (_ ++ _ ++ _ : Array Value).size = grownCap w (0 + n) 0 (ren.t 25) * 3
  generalize grownCap w (0 + n) 0 (ren.t 25) = G at *
  simp [Builtin.zeroCells, Value.cells]
  omega


theorem wpList_append_none {P : Program} {w : World} {ops : Array Oper} {rest : List Oper} {o : Oper} {a : Act} {Q : Exit → Act → World → Prop} (hgd : o.guard = none) (s x : Operand) (t : TypeId)
    (ho : o.op = .call { callee := .builtin .append, args := #[s, x], argTypes := #[t, t] })
    (base : Nat) (e : TypeId) (i : TypeInfo) (size c : Nat) (ht : P.underlying t = some (.slice e)) (hi : P.info? e = some i)
    (v : Value) (n : Nat) (xs : List Value) (hs : a.eval s = v) (hown : w.ownsRow base e size v n xs) (hx : a.eval x = .slice none 0 c)
    (h : wpList P ops Q rest (a.put o.dst v) w) : wpList P ops Q (o :: rest) a w := by
  refine wpList_plain hgd fun K hK => ?_
  have hr := run_none (P := P) base t o.type e i size c ht hi w v n xs hown
  unfold Oper.wp execOp
  simp only [ho, resolve, invoke, builtin, Sem.run_bind, Sem.run_pure, Result.andThen_ok, List.map_toArray, List.map_cons, List.map_nil, hs, hx, hr]
  exact hK _ _ h
set_option maxRecDepth 100000 in
set_option maxHeartbeats 4000000 in
theorem concatL (ls : List Int) (x y z : Int) (A : Option Addr) (m c g g2 : Nat) (w : World) (hm : m ≤ 1048500) (hg : g < w.heap.size) (q0 : w.cell? ⟨g, 0, none⟩ = some (.slice A m c)) (q1 : w.cell? ⟨g, 1, none⟩ = some (.slice (some ⟨g2, 0, none⟩) 1 1))
    (h1 : RdZ 3 w w.heap.size A m ls) (hy : ∀ W, Below w.heap.size w W → ∀ j u, [Value.int .i64 x, .int .i64 y, .int .i64 z][j]? = some u → W.cell? ((⟨g2, 0, none⟩ : Addr).add j) = some u) :
    Calls Try.prog 83 #[.slice (some ⟨g, 0, none⟩) 2 2] w fun e w' => ∃ v, e = .returned v ∧ w'.ownsRow w.heap.size 50 3 v (m + 1) (cellsI (ls ++ [x, y, z])) ∧ Below w.heap.size w w' := by
  obtain ⟨i0, hi, hz0, hz1, hz2⟩ := info_parts infoL
  have L1 := Lib.hid (show (cellsI ls).length = m * 3 by unfold cellsI; rw [List.length_map, h1.1])
  have HC := Lib.hid (show cellsI (ls ++ [x, y, z]) = cellsI ls ++ [.int .i64 x, .int .i64 y, .int .i64 z] by unfold cellsI; rw [List.map_append]; rfl)
  have HX := Lib.hid h1
  have HY := Lib.hid hy
  have Q0 := Lib.hid q0
  have Q1 := Lib.hid q1
  clear h1 hy
  go_enter Try.func83, Try.ntmps83
  go_wp2_with fail
  go_loop [3, 11] (fun z i => (i = .int .i64 0 ∧ z = .int .i64 0) ∨ (i = .int .i64 1 ∧ z = .int .i64 (m : Int)) ∨ (i = .int .i64 2 ∧ z = .int .i64 ((m + 1 : Nat) : Int))) (fun _ i => 2 - (intOf i).toNat)
  case atStart => exact Or.inl ⟨rfl, rfl⟩
  case round =>
    rcases hrel with ⟨rfl, rfl⟩ | ⟨rfl, rfl⟩ | ⟨rfl, rfl⟩
    · have z0 : ¬ (m : Int) < 0 := by omega
      go_wp2_with fail
      go_round
      case rel => simp
      case measure => simp [intOf]
    · have z0 : ¬ (m : Int) + 1 < 0 := by omega
      go_wp2_with fail
      go_round
      case rel => first | simp | exact Or.inr (Or.inr ⟨rfl, by go_num⟩)
      case measure => simp [intOf]
    · have G := Lib.hid (growL (m + 1) w (by omega) (by omega))
      clear q0 q1
      generalize ((m + 1 : Nat) : Int) = mm at *
      go_wp2_with fail
      refine G.out.mono ?_
      rintro e w1 ⟨v1, rfl, ho1, hb1⟩
      have O1 := Lib.hid ho1
      have B1 := Lib.hid hb1
      clear ho1 hb1 G
      go_wp2_with fail
      go_loopw [6, 27] (fun v i wr => Below w.heap.size w wr ∧ ((i = .int .i64 0 ∧ wr.ownsRow w.heap.size 50 3 v 0 []) ∨ (i = .int .i64 1 ∧ wr.ownsRow w.heap.size 50 3 v m (cellsI ls)) ∨ (i = .int .i64 2 ∧ wr.ownsRow w.heap.size 50 3 v (m + 1) (cellsI ls ++ [.int .i64 x, .int .i64 y, .int .i64 z])))) (fun _ i _ => 2 - (intOf i).toNat)
      case atStart => exact ⟨B1.out, Or.inl ⟨rfl, O1.out⟩⟩
      case round =>
        obtain ⟨hb, hrel⟩ := hrel
        clear O1 B1
        have p0 := (hb.cell (p := ⟨g, 0, none⟩) hg).trans Q0.out
        have p1 := (hb.cell (p := ⟨g, 1, none⟩) hg).trans Q1.out
        have hsz := hb.size
        rcases hrel with ⟨rfl, hown⟩ | ⟨rfl, hown⟩ | ⟨rfl, hown⟩
        · cases A with
          | none =>
            have hm0 : m = 0 := by
              rcases Nat.eq_zero_or_pos m with h | h
              · exact h
              · obtain ⟨_, _, e, _⟩ := HX.out.2 h
                cases e
            have hl0 : ls = [] := List.eq_nil_of_length_eq_zero (by have := HX.out.1; omega)
            subst hm0
            subst hl0
            go_wp2_with (at_builtin; refine wpList_append_none rfl (.tmp 31) (.tmp 32) 42 rfl w.heap.size 50 i0 3 c Try.underlying42 hi _ 0 [] rfl hown rfl ?_)
            have OX := Lib.hid hown
            have BX := Lib.hid hb
            clear hown hb p0 p1
            go_roundw
            case rel => exact ⟨BX.out, .inr (.inl ⟨by first | rfl | go_num, OX.out⟩)⟩
            case measure => simp [intOf]
          | some ad =>
            have hsrc : ∀ j u, (cellsI ls)[j]? = some u → wr.cell? (ad.add j) = some u := by
              rcases Nat.eq_zero_or_pos m with h | h
              · intro j u hu
                have : ls = [] := List.eq_nil_of_length_eq_zero (by have := HX.out.1; omega)
                rw [this] at hu
                simp [cellsI] at hu
              · obtain ⟨b, o, e, hbl, hc⟩ := HX.out.2 h
                injection e with e
                subst e
                intro j u hu
                obtain ⟨v, hv, rfl⟩ := cellsI_at hu
                rw [Addr.add_lit, hb.cell (p := ⟨b, o + j, none⟩) hbl]
                exact hc j v hv
            have hz1b : 0 + m ≤ maxLen := by unfold maxLen; omega
            have hz2b : (0 + m) * 24 ≤ 140737488355328 := by omega
            go_wp2_with (at_builtin; refine wpList_append_own _ rfl (.tmp 31) (.tmp 32) 42 rfl w.heap.size 50 i0 (.agg #[.int .i64 0, .int .i64 0, .int .i64 0]) 3 24 Try.underlying42 hi hz0 hz1 hz2 rfl (by decide) _ 0 [] rfl hown ad m c (cellsI ls) rfl L1.out hsrc (ins.ints_one _) hz1b hz2b hsz ?_; intro v' w3 hown' hgrow hnil)
            have OX := Lib.hid (show w3.ownsRow w.heap.size 50 3 v' m (cellsI ls) by rw [Nat.zero_add, List.nil_append] at hown'; exact hown')
            have BX := Lib.hid (hb.grown hgrow hsz (own_.row_ge hown))
            clear hown' hgrow hnil hown hb p0 p1 hsrc hz1b hz2b
            go_roundw
            case rel => exact ⟨BX.out, .inr (.inl ⟨by first | rfl | go_num, OX.out⟩)⟩
            case measure => simp [intOf]
        · have hz1b : m + 1 ≤ maxLen := by unfold maxLen; omega
          have hz2b : (m + 1) * 24 ≤ 140737488355328 := by omega
          go_wp2_with (at_builtin; refine wpList_append_own _ rfl (.tmp 31) (.tmp 32) 42 rfl w.heap.size 50 i0 (.agg #[.int .i64 0, .int .i64 0, .int .i64 0]) 3 24 Try.underlying42 hi hz0 hz1 hz2 rfl (by decide) _ m (cellsI ls) rfl hown ⟨g2, 0, none⟩ 1 1 [.int .i64 x, .int .i64 y, .int .i64 z] rfl rfl (HY.out _ hb) (three_cells x y z) hz1b hz2b hsz ?_; intro v' w3 hown' hgrow hnil)
          have OX := Lib.hid hown'
          have BX := Lib.hid (hb.grown hgrow hsz (own_.row_ge hown))
          clear hown' hgrow hnil hown hb p0 p1 hz1b hz2b
          go_roundw
          case rel => exact ⟨BX.out, .inr (.inr ⟨by first | rfl | go_num, OX.out⟩)⟩
          case measure => simp [intOf]
        · have OX := Lib.hid hown
          have BX := Lib.hid hb
          clear hown hb p0 p1
          go_wp2_with fail
          go_ret
          exact ⟨_, rfl, by rw [HC.out]; exact OX.out, BX.out⟩

theorem lkB_app {ls : List Int} {n x y z : Int} {m : Nat} (hl : ls.length = m * 3) (h : lkB ls n m = false) : lkB (ls ++ [x, y, z]) n (m + 1) = false := by
  cases e : lkB (ls ++ [x, y, z]) n (m + 1) with
  | false => rfl
  | true =>
    obtain ⟨h1, h2, h3, h4⟩ := lkB_yes e
    have h5 := lkT_le h1 (show m ≤ m + 1 by omega)
    have h6 : lkT ls n m = true := by
      have := lkT_take (ls := ls ++ [x, y, z]) (n := n) m (Nat.le_refl m)
      rw [h5, ← hl, List.take_left] at this
      exact this
    unfold lkB at h
    rw [h6, show isIn n 1 6 = true from decide_eq_true ⟨h2, h3⟩, decide_eq_true (show m ≤ 12 by omega)] at h
    cases h
set_option maxRecDepth 100000 in
set_option maxHeartbeats 8000000 in
theorem addClockLink (n : Int) (ls : List Int) (x y z : Int) (A : Option Addr) (m c : Nat) (w : World) (_ : m ≤ c) (hm : m ≤ 1048576) (h1 : RdZ 3 w w.heap.size A m ls) :
    Calls Try.prog 36 #[.int .i64 n, .slice A m c, .agg #[.int .i64 x, .int .i64 y, .int .i64 z]] w fun e w' => ∃ v, e = .returned (.tuple #[v, .bool (adB ls n m x y z)]) ∧ w'.ownsRow w.heap.size 50 3 v (adN ls n m x y z) (cellsI (adV ls n m x y z)) ∧ Below w.heap.size w w' := by
  have S0 := Lib.hid (newS 50 #[.int .i64 x, .int .i64 y, .int .i64 z] w)
  have HAD := Lib.hid (show adB ls n m x y z = (lkB (ls ++ [x, y, z]) n (m + 1) && alT (ls ++ [x, y, z]) (m + 1) n.toNat) from rfl)
  have HVN := Lib.hid (fun (h : adB ls n m x y z = false) => show adN ls n m x y z = 0 ∧ adV ls n m x y z = [] by unfold adN adV; rw [h]; exact ⟨rfl, rfl⟩)
  have HVY := Lib.hid (fun (h : adB ls n m x y z = true) => show adN ls n m x y z = m + 1 ∧ adV ls n m x y z = ls ++ [x, y, z] by unfold adN adV; rw [h]; exact ⟨rfl, rfl⟩)
  have T := fun W (hW : Below w.heap.size w W) => areLinks n ls A m c W (by omega) (h1.next hW)
  cases hq : lkB ls n m
  · rw [hq] at T
    have HE := Lib.hid (show adB ls n m x y z = false by rw [HAD.out, lkB_app h1.1 hq]; rfl)
    have HV := Lib.hid (HVN.out HE.out)
    have T := Lib.hid T
    clear h1 hq HAD HVN HVY
    go_enter Try.func36, Try.ntmps36
    go_wp2_with fail
    generalize w.alloc (.cells #[.int .i64 x, .int .i64 y, .int .i64 z] 50) = W0 at *
    refine (T.out W0 S0.out.1).mono ?_
    rintro e W1 ⟨rfl, hb⟩
    have BW := Lib.hid (S0.out.1.trans (hb.mono S0.out.1.size))
    clear hb
    go_wp2_with fail
    go_ret2
    exact ⟨_, by rw [HE.out]; rfl, by rw [HV.out.1, HV.out.2]; exact World.ownsRow_nil _ _ _ _, BW.out⟩
  rw [hq] at T
  have T := Lib.hid T
  obtain ⟨hv, n1, n6, m12⟩ := lkB_yes hq
  have HL := Lib.hid (show (ls ++ [x, y, z]).length = (m + 1) * 3 by rw [List.length_append, h1.1]; simp; omega)
  have CC := Lib.hid (fun g g2 W (hW : Below w.heap.size w W) hg q0 q1 hy => concatL ls x y z A m c g g2 W (by omega) hg q0 q1 (h1.next hW) hy)
  have T2 := fun A' c' W (h : RdZ 3 W W.heap.size A' (m + 1) (ls ++ [x, y, z])) => areLinks n (ls ++ [x, y, z]) A' (m + 1) c' W (by omega) h
  have M12 := Lib.hid m12
  have NN := Lib.hid (show 1 ≤ n ∧ n ≤ 6 from ⟨n1, n6⟩)
  clear h1 hv hq m12 n1 n6
  have ecast : (((m + 1 : Nat) : Int)) = (m : Int) + 1 := by omega
  go_enter Try.func36, Try.ntmps36
  go_wp2_with fail
  generalize w.alloc (.cells #[.int .i64 x, .int .i64 y, .int .i64 z] 50) = W0 at *
  refine (T.out W0 S0.out.1).mono ?_
  rintro e W1 ⟨rfl, hb⟩
  have S1 := Lib.hid (S0.out.old hb)
  have BX := Lib.hid (S0.out.1.trans (hb.mono S0.out.1.size))
  clear hb T
  have x0 : W1.cell? ⟨w.heap.size, 0, none⟩ = some (.int .i64 x) := S1.out.cell 0
  have x1 : W1.cell? ⟨w.heap.size, 1, none⟩ = some (.int .i64 y) := S1.out.cell 1
  have x2 : W1.cell? ⟨w.heap.size, 2, none⟩ = some (.int .i64 z) := S1.out.cell 2
  have S2 := Lib.hid (newS 50 #[.int .i64 x, .int .i64 y, .int .i64 z] W1)
  go_upto_region 3 with fail
  go_wp2_with fail
  clear x0 x1 x2
  have hsz2 := World.size_alloc W1 (.cells #[.int .i64 x, .int .i64 y, .int .i64 z] 50)
  have BS := Lib.hid (BX.out.trans (S2.out.1.mono BX.out.size))
  have hgw := BX.out.size
  generalize W1.alloc (.cells #[.int .i64 x, .int .i64 y, .int .i64 z] 50) = W2 at *
  generalize W1.heap.size = gr at *
  have S3 := newS 42 #[.slice A m c, .slice (some ⟨gr, 0, none⟩) 1 1] W2
  rw [hsz2] at S3
  have S3 := Lib.hid S3
  have B23 := Lib.hid ((Below.refl W2.heap.size W2).alloc (Nat.le_refl _) (.cells #[.slice A m c, .slice (some ⟨gr, 0, none⟩) 1 1] 42))
  have hsz3 : (W2.alloc (.cells #[.slice A m c, .slice (some ⟨gr, 0, none⟩) 1 1] 42)).heap.size = gr + 2 := by rw [World.size_alloc, hsz2]
  generalize W2.alloc (.cells #[.slice A m c, .slice (some ⟨gr, 0, none⟩) 1 1] 42) = W3 at *
  have BS3 := Lib.hid (BS.out.trans (B23.out.mono (by omega)))
  refine (CC.out (gr + 1) gr W3 BS3.out (by omega) (S3.out.cell 0) (S3.out.cell 1) (fun W' hW' j u hu => by
    rw [Addr.add_lit, Nat.zero_add]
    refine ((S2.out.old (B23.out.trans (hW'.mono (by omega)))).cell j).trans ?_
    simpa using hu)).mono ?_
  rintro e W4 ⟨v5, rfl, ho, hb⟩
  obtain ⟨D, cD, rfl, hcD⟩ := own_capZ ho
  have RD := RdZ.of_own ho HL.out
  have OX := Lib.hid (own_.own_base ho BS3.out.size)
  have BY := Lib.hid (BS3.out.trans (hb.mono BS3.out.size))
  clear ho hb CC S3 B23 S2 hsz2 hsz3 BS BS3
  obtain ⟨N, hN⟩ := Int.eq_ofNat_of_zero_le (show 0 ≤ n by have := NN.out; omega)
  subst hN
  have T3 := T2 D cD W4 RD
  have DL := fun (hv : lkT (ls ++ [x, y, z]) (N : Int) (m + 1) = true) (h12 : m + 1 ≤ 12) W (hW : Below W4.heap.size W4 W) => doLinksAgree (ls ++ [x, y, z]) D N (m + 1) cD W (by have := NN.out; omega) h12 hcD hv (RD.next hW)
  clear T2 RD
  cases hq : lkB (ls ++ [x, y, z]) (N : Int) (m + 1)
  · rw [hq] at T3
    have HE := Lib.hid (show adB ls N m x y z = false by rw [HAD.out, hq]; rfl)
    have HV := Lib.hid (HVN.out HE.out)
    have T3 := Lib.hid T3
    clear hq DL HAD HVN HVY
    go_wp2_with fail
    refine T3.out.mono ?_
    rintro e W5 ⟨rfl, hb⟩
    have BW := Lib.hid (BY.out.trans (hb.mono BY.out.size))
    clear hb
    go_wp2_with fail
    go_ret2
    exact ⟨_, by rw [HE.out]; rfl, by rw [HV.out.1, HV.out.2]; exact World.ownsRow_nil _ _ _ _, BW.out⟩
  rw [hq] at T3
  obtain ⟨hv, h1, h6, h12⟩ := lkB_yes hq
  have DL := DL hv h12
  have hga := gl_alT hv
  cases hg : glB (ls ++ [x, y, z]) (m + 1)
  · rw [hg] at DL
    have HE := Lib.hid (show adB ls N m x y z = false by rw [HAD.out, Int.toNat_natCast, ← hga, hg]; simp)
    have HV := Lib.hid (HVN.out HE.out)
    have T3 := Lib.hid T3
    have DL := Lib.hid DL
    clear hq hg hga hv HAD HVN HVY
    go_wp2_with fail
    refine T3.out.mono ?_
    rintro e W5 ⟨rfl, hb⟩
    have B45 := Lib.hid hb
    have BZ := Lib.hid (BY.out.trans (hb.mono BY.out.size))
    clear hb T3
    go_wp2_with fail
    refine (DL.out W5 B45.out).mono ?_
    rintro e W6 ⟨rfl, hb⟩
    have BW := Lib.hid (BZ.out.trans (hb.mono BZ.out.size))
    clear hb DL
    go_wp2_with fail
    go_ret2
    exact ⟨_, by rw [HE.out]; rfl, by rw [HV.out.1, HV.out.2]; exact World.ownsRow_nil _ _ _ _, BW.out⟩
  rw [hg] at DL
  have HE := Lib.hid (show adB ls N m x y z = true by rw [HAD.out, Int.toNat_natCast, ← hga, hg, hq]; rfl)
  have HV := Lib.hid (HVY.out HE.out)
  have T3 := Lib.hid T3
  have DL := Lib.hid DL
  clear hq hg hga hv HAD HVN HVY
  go_wp2_with fail
  refine T3.out.mono ?_
  rintro e W5 ⟨rfl, hb⟩
  have B45 := Lib.hid hb
  have BZ := Lib.hid (BY.out.trans (hb.mono BY.out.size))
  clear hb T3
  go_wp2_with fail
  refine (DL.out W5 B45.out).mono ?_
  rintro e W6 ⟨rfl, hb⟩
  have O6 := Lib.hid (own_.own_below (own_.own_below OX.out B45.out) hb)
  have BW := Lib.hid (BZ.out.trans (hb.mono BZ.out.size))
  clear hb DL
  go_wp2_with fail
  go_ret2
  exact ⟨_, by rw [HE.out]; rfl, by rw [HV.out.1, HV.out.2]; exact O6.out, BW.out⟩
end Go.Proofs.Ytndogafihaooiaa.lnki
