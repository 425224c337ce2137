/- The laws' helpers on lists of sectors: szSectorS, toSectorS, eqSectorS, markSectorS; an argument that is such a list, opened. -/
import Derived.Test.YtkndfklbonkbiaaSlsA
import Derived.Test.YtkndfklbonkbiaaPosX
import Derived.Deep.CutRange
import Derived.Laws.MakeOwn
import Derived.Laws.OwnMore
import Derived.Lib.QuietBelow
namespace Go.Proofs.Ytkndfklbonkbiaa.slsb
open Go.RowKit Go.ChangeShapes Go.WideShapes Go.Deep Go.Proofs.Ytkndfklbonkbiaa.ints Go.Proofs.Ytkndfklbonkbiaa.lst Go.Proofs.Ytkndfklbonkbiaa.ats Go.Proofs.Ytkndfklbonkbiaa.rws Go.Proofs.Ytkndfklbonkbiaa.slsa

def tot (ps : List Se) : Nat → Nat
  | 0 => 0
  | k + 1 => tot ps k + nc (ps.getD k (0, []))
theorem tot_step {ps : List Se} {k : Nat} {p : Se} (h : ps[k]? = some p) : tot ps (k + 1) = tot ps k + nc p := by
  rw [tot, List.getD_eq_getElem?_getD, h]; rfl
theorem tot_le {ps : List Se} {i j : Nat} (h : i ≤ j) : tot ps i ≤ tot ps j := by
  induction h with
  | refl => exact Nat.le_refl _
  | step _ ih => rw [tot]; omega
theorem tot_nc {ps : List Se} {n k m : Nat} {p : Se} (hp : ps[k]? = some p) (hk : k < n) (h : n + tot ps n ≤ m) : nc p ≤ m := by
  have h1 := tot_step hp
  have h2 := tot_le (ps := ps) (show k + 1 ≤ n from hk)
  omega

set_option maxRecDepth 100000 in
theorem szS (ps : List Se) (A : Option Addr) (n c : Nat) (w : World) (hn : n ≤ maxLen) (h : RdS false w w.heap.size A n ps) :
    Calls Try.prog 6 #[.slice A n c, .int .i64 1048576] w fun e w' => e = .returned (.int .i64 (if n + tot ps n ≤ 1048576 then 1048576 - ((n + tot ps n : Nat) : Int) else -1)) ∧ Below w.heap.size w w' := by
  unfold maxLen at hn
  by_cases h0 : n ≤ 1048576
  case neg =>
    rw [if_neg (by omega)]
    have hn2 : ¬ (n : Int) ≤ 1048576 := by omega
    have d : decide ((1048576 : Int) - (n : Int) < 0) = true := decide_eq_true (by omega)
    have e : (1048576 : Int) - (n : Int) < 0 := by omega
    clear h
    go_enter Try.func6, Try.ntmps6
    go_wp2_with fail
    go_ret
    exact ⟨rfl, Below.refl _ _⟩
  have hn2 : (n : Int) ≤ 1048576 := by omega
  have d : decide ((1048576 : Int) - (n : Int) < 0) = false := decide_eq_false (by omega)
  have e : ¬ (1048576 : Int) - (n : Int) < 0 := by omega
  have HR := Lib.hid h
  clear h
  go_enter Try.func6, Try.ntmps6
  go_wp2_with fail
  go_loopw [1, 5] (fun q i wr => ∃ j : Nat, j ≤ n ∧ i = .int .i64 j ∧ n + tot ps j ≤ 1048576 ∧ q = .int .i64 (1048576 - ((n + tot ps j : Nat) : Int)) ∧ Below w.heap.size w wr) (fun _ i _ => n - (intOf i).toNat)
  case atStart => exact ⟨0, Nat.zero_le _, rfl, h0, rfl, Below.refl _ _⟩
  case round =>
    obtain ⟨j, hj, rfl, ht, rfl, hb⟩ := hrel
    clear d e
    by_cases hlt : j < n
    · have hlt2 : (j : Int) < (n : Int) := by omega
      obtain ⟨p, hp⟩ := HR.out.get hlt
      obtain ⟨b1, o1, A1, c1, rfl, -, q0, q1, -, hm, -⟩ := (HR.out.below hb (Nat.le_refl _)).2 j p hp
      have hst := tot_step hp
      have hle := tot_le (ps := ps) (show j + 1 ≤ n from hlt)
      have HP := Lib.hid hp
      clear hp
      obtain ⟨d, zs⟩ := p
      generalize hnc : nc (d, zs) = m at *
      by_cases hq : m ≤ 1048576 - (n + tot ps j)
      · have Z := fun w => sece.sz d A1 m c1 (1048576 - ((n + tot ps j : Nat) : Int)) w hm (by omega) (by omega)
        rw [if_pos (by omega)] at Z
        have Z := Lib.hid Z
        have HE := Lib.hid (show (1048576 : Int) - ((n + tot ps j : Nat) : Int) - (m : Int) = 1048576 - ((n + tot ps (j + 1) : Nat) : Int) by omega)
        have HT := Lib.hid (show n + tot ps (j + 1) ≤ 1048576 by omega)
        have d0 : decide ((1048576 : Int) - ((n + tot ps (j + 1) : Nat) : Int) < 0) = false := decide_eq_false (by omega)
        have e0 : ¬ (1048576 : Int) - ((n + tot ps (j + 1) : Nat) : Int) < 0 := by omega
        rw [HE.out] at Z
        have HB := Lib.hid hb
        clear hb hst hle hq hm ht HE hnc
        generalize (1048576 : Int) - ((n + tot ps j : Nat) : Int) = L at *
        generalize hL2 : (1048576 : Int) - ((n + tot ps (j + 1) : Nat) : Int) = L2 at *
        have HL2 := Lib.hid hL2
        clear hL2
        go_wp2_with fail
        refine (Z.out _).mono ?_
        rintro e w2 ⟨rfl, hb2⟩
        have HB2 := Lib.hid (HB.out.trans (hb2.mono HB.out.size))
        clear hb2 q0 q1
        go_wp2_with fail
        go_roundw
        case rel => exact ⟨j + 1, by omega, by go_num, HT.out, by rw [HL2.out], HB2.out⟩
        case measure => simp [intOf]; omega
      · have Z := fun w => sece.sz d A1 m c1 (1048576 - ((n + tot ps j : Nat) : Int)) w hm (by omega) (by omega)
        rw [if_neg (by omega)] at Z
        have Z := Lib.hid Z
        have HB := Lib.hid hb
        have HX := Lib.hid (show ¬ n + tot ps n ≤ 1048576 by omega)
        clear hb hst hle hq hm ht hnc
        generalize (1048576 : Int) - ((n + tot ps j : Nat) : Int) = L at *
        go_wp2_with fail
        refine (Z.out _).mono ?_
        rintro e w2 ⟨rfl, hb2⟩
        have HB2 := Lib.hid (HB.out.trans (hb2.mono HB.out.size))
        clear hb2 q0 q1
        go_wp2_with fail
        go_ret
        exact ⟨by first | rfl | rw [if_neg HX.out], HB2.out⟩
    · obtain rfl : j = n := by omega
      have HB := Lib.hid hb
      have HT := Lib.hid ht
      clear hb ht
      generalize hL : (1048576 : Int) - ((j + tot ps j : Nat) : Int) = L at *
      have HL := Lib.hid hL
      clear hL
      go_wp2_with fail
      go_ret
      exact ⟨congrArg (fun z => Ending.returned (Value.int .i64 z)) (show L = _ by have := HL.out; first | omega | (rw [if_pos HT.out]; omega)), HB.out⟩

theorem infoS : (Try.prog.info? 42).map (fun i => (i.zero, i.size, i.bytes)) = some (some (.agg #[.int .i64 0, .slice none 0 0]), 2, 32) := by kernel_rfl
theorem made (n : Nat) : (madeCells (Value.cells (.agg #[.int .i64 0, .slice none 0 0])) (n * 2)).toList = qCells (List.replicate n (0, [])) (List.replicate n (.slice none 0 0)) := by
  have hl : (List.replicate n (Value.slice none 0 0)).length = (List.replicate n ((0, []) : Se)).length := by rw [List.length_replicate, List.length_replicate]
  refine List.ext_getElem? fun i => ?_
  rcases Nat.lt_or_ge i (n * 2) with h | h
  · have e := qCells_at (ps := List.replicate n ((0, []) : Se)) (us := List.replicate n (.slice none 0 0)) (g := i / 2) (p := (0, [])) (u := .slice none 0 0) hl (by rw [List.getElem?_replicate, if_pos (by omega)]) (by rw [List.getElem?_replicate, if_pos (by omega)]) (i % 2) (by omega)
    rw [show i / 2 * 2 + i % 2 = i by omega] at e
    rw [e]
    have h2 : i % 2 = 0 ∨ i % 2 = 1 := by omega
    simp only [madeCells, Value.cells]
    rcases h2 with h2 | h2 <;> simp [h, h2, qc]
  · rw [List.getElem?_eq_none (by simp [madeCells]; omega), List.getElem?_eq_none (by rw [qCells_length hl, List.length_replicate]; omega)]
theorem made_own {w : World} {B n : Nat} {v : Value} (h : w.ownsRow B 42 2 v n (madeCells (Value.cells (.agg #[.int .i64 0, .slice none 0 0])) (n * 2)).toList) : GQ B w v (List.replicate n (0, [])) := by
  rw [made] at h
  refine ⟨List.replicate n (.slice none 0 0), by rw [List.length_replicate, List.length_replicate], by rw [List.length_replicate]; exact h, by rw [List.length_replicate, List.length_map, List.length_replicate], fun i u r hu hr => ?_, fun i j u u' g hij hu hu' hg => ?_⟩
  · rw [List.getElem?_replicate] at hu
    rw [List.map_replicate, List.getElem?_replicate] at hr
    split at hu
    · rename_i hi
      rw [if_pos hi] at hr
      injection hu with hu
      injection hr with hr
      subst hu; subst hr
      exact ⟨0, World.ownsRow_nil ..⟩
    · cases hu
  · rw [List.getElem?_replicate] at hu
    split at hu
    · injection hu with hu
      subst hu
      cases hg
    · cases hu
/-- The list when k of its sectors are copied. -/
def fill (ps : List Se) (k : Nat) : List Se := ps.take k ++ List.replicate (ps.length - k) (0, [])
theorem fill_zero (ps : List Se) : fill ps 0 = List.replicate ps.length (0, []) := by simp [fill]
theorem fill_all (ps : List Se) : fill ps ps.length = ps := by simp [fill]
theorem fill_length {ps : List Se} {k : Nat} (h : k ≤ ps.length) : (fill ps k).length = ps.length := by simp [fill]; omega
theorem fill_set {ps : List Se} {k : Nat} {p : Se} (h : ps[k]? = some p) : (fill ps k).set k p = fill ps (k + 1) := by
  obtain ⟨hk, e⟩ := List.getElem?_eq_some_iff.1 h
  unfold fill
  have h1 : (ps.take k).length = k := by simp; omega
  rw [List.set_append, if_neg (by omega), h1, Nat.sub_self, List.take_succ_eq_append_getElem hk, e]
  obtain ⟨r, hr⟩ : ∃ r, ps.length - k = r + 1 := ⟨ps.length - k - 1, by omega⟩
  rw [hr, List.replicate_succ, List.set_cons_zero, show ps.length - (k + 1) = r by omega, List.append_assoc]
  rfl

set_option maxRecDepth 100000 in
set_option maxHeartbeats 2000000 in
theorem toSectorS (ps : List Se) (A : Option Addr) (n c : Nat) (w : World) (hn : n ≤ 1048576) (hs : ∀ (k : Nat) (p : Se), ps[k]? = some p → nc p ≤ 1048576) (h : RdS false w w.heap.size A n ps) :
    Calls Try.prog 8 #[.slice A n c] w fun e w' => ∃ (g : Nat), e = .returned (.slice (some ⟨g, 0, none⟩) n n) ∧ GQ w.heap.size w' (.slice (some ⟨g, 0, none⟩) n n) ps ∧ Below w.heap.size w w' := by
  obtain ⟨i0, hi, hz0, hz1, hz2⟩ := info_parts infoS
  have HL := Lib.hid h.len
  have HR := Lib.hid h
  have HS := Lib.hid hs
  clear h hs
  go_enter Try.func8, Try.ntmps8
  go_wp2_with (at_make; refine wpList_make_full _ rfl _ _ 29 rfl w.heap.size 42 i0 (.agg #[.int .i64 0, .slice none 0 0]) 2 Try.underlying29 hi hz0 hz1 _ _ _ _ n rfl rfl rfl rfl (by rw [hz2]; omega) (by unfold maxLen; omega) (Nat.le_refl _) ?_; intro w1 hown hg)
  have HQ1 := Lib.hid (show GQ w.heap.size w1 (.slice (some ⟨w.heap.size, 0, none⟩) n n) (fill ps 0) by rw [fill_zero, HL.out]; exact made_own hown)
  have HB1 := Lib.hid (show Below w.heap.size w w1 from (Below.refl _ _).grown hg (Nat.le_refl _) (fun k e => by cases e))
  clear hown hg
  go_loopw [4] (fun i wr => ∃ k : Nat, k ≤ n ∧ i = .int .i64 k ∧ Below w.heap.size w wr ∧ GQ w.heap.size wr (.slice (some ⟨w.heap.size, 0, none⟩) n n) (fill ps k)) (fun i _ => n - (intOf i).toNat)
  case atStart => exact ⟨0, Nat.zero_le _, rfl, HB1.out, HQ1.out⟩
  case round =>
    obtain ⟨k, hk, rfl, hb, hQ⟩ := hrel
    clear HB1 HQ1
    by_cases hlt : k < n
    · have hlt2 : (k : Int) < (n : Int) := by omega
      obtain ⟨p, hp⟩ := HR.out.get hlt
      obtain ⟨b1, o1, A1, c1, rfl, -, q0, q1, hrz, -, -⟩ := (HR.out.below hb (Nat.le_refl _)).2 k p hp
      have hnc := HS.out k p hp
      have HF := Lib.hid (fill_set hp)
      have HQ := Lib.hid hQ
      have HB := Lib.hid hb
      have hfl := Lib.hid (show k < (fill ps k).length by rw [fill_length (by rw [HL.out]; omega), HL.out]; exact hlt)
      clear hp hQ
      obtain ⟨d, zs⟩ := p
      generalize nc (d, zs) = m at *
      have T := Lib.hid (sece.toSector d zs A1 m c1 wr hnc (RdZ_up hrz hb.size))
      clear hrz hb
      go_wp2_with fail
      refine T.out.mono ?_
      rintro e w2 ⟨g, rfl, ho, hb2⟩
      obtain ⟨ob, oc, x, y, e1, -, fz, s0, s1, hq2⟩ := HQ.out.put hfl.out hb2 HB.out.size ho d
      obtain rfl : w.heap.size = ob := by injection e1 with e1; injection e1 with e1; injection e1
      have r0 := fz (k * 2)
      have r1 := fz (k * 2 + 1)
      have Q3 := Lib.hid hq2
      have B3 := Lib.hid (((HB.out.trans (hb2.mono HB.out.size)).setCell (p := ⟨w.heap.size, k * 2, none⟩) (Nat.le_refl _) (.int .i64 d)).setCell (p := ⟨w.heap.size, k * 2 + 1, none⟩) (Nat.le_refl _) (.slice (some ⟨g, 0, none⟩) m m))
      clear ho hb2 e1 fz hq2 q0 q1 T
      go_wp2_with fail
      go_roundw
      case rel => exact ⟨k + 1, by omega, by go_num, B3.out, by rw [← HF.out]; exact Q3.out⟩
      case measure => simp [intOf]; omega
    · obtain rfl : k = n := by omega
      have HB := Lib.hid hb
      have HQ := Lib.hid (show GQ w.heap.size wr (.slice (some ⟨w.heap.size, 0, none⟩) k k) ps by have e := fill_all ps; rw [HL.out] at e; rw [e] at hQ; exact hQ)
      clear hb hQ
      go_wp2_with fail
      go_ret
      exact ⟨w.heap.size, rfl, HQ.out, HB.out⟩

set_option maxRecDepth 100000 in
set_option maxHeartbeats 2000000 in
theorem eqSectorS (ps : List Se) (A C : Option Addr) (n c d : Nat) (w : World) (hn : n ≤ 1048577) (hs : ∀ (k : Nat) (p : Se), ps[k]? = some p → nc p ≤ 1048577) (h1 : RdS true w w.heap.size A n ps) (h2 : RdS true w w.heap.size C n ps) :
    Calls Try.prog 12 #[.slice A n c, .slice C n d] w fun e w' => e = .returned (.bool true) ∧ Below w.heap.size w w' := by
  have HR1 := Lib.hid h1
  have HR2 := Lib.hid h2
  have HS := Lib.hid hs
  clear h1 h2 hs
  go_enter Try.func12, Try.ntmps12
  go_wp2_with fail
  go_loopw [5] (fun i wr => ∃ k : Nat, k ≤ n ∧ i = .int .i64 k ∧ Below w.heap.size w wr) (fun i _ => n - (intOf i).toNat)
  case atStart => exact ⟨0, Nat.zero_le _, rfl, Below.refl _ _⟩
  case round =>
    obtain ⟨k, hk, rfl, hb⟩ := hrel
    by_cases hlt : k < n
    · obtain ⟨p, hp⟩ := HR1.out.get hlt
      obtain ⟨b1, o1, A1, c1, rfl, -, p0, p1, hz1, -, -⟩ := (HR1.out.next hb).2 k p hp
      obtain ⟨b2, o2, A2, c2, rfl, -, r0, r1, hz2, -, -⟩ := (HR2.out.next hb).2 k p hp
      have hnc := HS.out k p hp
      have hlt2 : (k : Int) < (n : Int) := by omega
      obtain ⟨d, zs⟩ := p
      generalize nc (d, zs) = m at *
      have X1 := Lib.hid (fun d0 os => Calls.regrown_of (sece.eqSector d zs A1 A2 m c1 c2 (Sort.grow (redrawn wr d0) os) hnc (hz1.next (below_regrown wr d0 os)) (hz2.next (below_regrown wr d0 os))))
      have HB := Lib.hid hb
      clear hb hp hz1 hz2
      go_wp2_with fail
      have p0' := fun d0 os => cell_regrown p0 d0 os
      have r0' := fun d0 os => cell_regrown r0 d0 os
      have p1' := fun d0 os => cell_regrown p1 d0 os
      have r1' := fun d0 os => cell_regrown r1 d0 os
      clear p0 r0 p1 r1
      refine wp_region_quiet_below (by kernel_rfl) (by kernel_rfl) ?_
      repeat (quiet_step (first
        | (go_at_call 51; with_reducible exact X1.out _ _)))
      refine wpQuiet_nil ?_
      intro _ hw'
      obtain ⟨⟨dq, osq⟩, hw''⟩ := hw'
      subst hw''
      have hbq := Lib.hid (HB.out.trans ((below_regrown wr dq osq).mono HB.out.size))
      clear p0' r0' p1' r1'
      generalize Sort.grow (redrawn wr dq) osq = w3 at *
      go_wp2_with fail
      go_roundw
      case rel => exact ⟨k + 1, by omega, by go_num, hbq.out⟩
      case measure => simp [intOf]; omega
    · have HB := Lib.hid hb
      clear hb
      go_wp2_with fail
      go_ret
      exact ⟨rfl, HB.out⟩

def kk (k : Nat) (ps : List Se) : Nat → Nat
  | 0 => k
  | j + 1 => kk k ps j + 1 + nc (ps.getD j (0, [])) * 2
theorem kk_step {k j : Nat} {ps : List Se} {p : Se} (h : ps[j]? = some p) : kk k ps (j + 1) = kk k ps j + 1 + nc p * 2 := by
  rw [kk, List.getD_eq_getElem?_getD, h]; rfl
theorem kk_le (k : Nat) (ps : List Se) {i j : Nat} (h : i ≤ j) : kk k ps i ≤ kk k ps j := by
  induction h with
  | refl => exact Nat.le_refl _
  | step _ ih => rw [kk]; omega
theorem kk_tot (k : Nat) (ps : List Se) : ∀ j, kk k ps j = k + j + tot ps j * 2
  | 0 => rfl
  | j + 1 => by rw [kk, kk_tot k ps j, tot]; omega
/-- Every row of ints is as it was. -/
def Keeps (w w' : World) : Prop := ∀ (B m : Nat) (x : Value) (r : List Value), w.ownsRow B 3 1 x m r → w'.ownsRow B 3 1 x m r
theorem Keeps.trans {a b c : World} (h : Keeps a b) (k : Keeps b c) : Keeps a c := fun B m x r ho => k B m x r (h B m x r ho)

set_option maxRecDepth 100000 in
set_option maxHeartbeats 2000000 in
theorem markSectorS (B : Nat) (A : Option Addr) (k n c : Nat) (ps : List Se) (w : World) (hn2 : n ≤ 1048577) (hk : kk k ps n ≤ 16777216) (hn : ps.length = n) (h : GQ B w (.slice A n c) ps) :
    Calls Try.prog 13 #[.slice A n c, .int .i64 (k : Int)] w fun e w' => e = .returned (.int .i64 ((kk k ps n : Nat) : Int)) ∧ Below B w w' ∧ Keeps w w' := by
  have HN := Lib.hid hn
  have HQ := Lib.hid h
  have HK := Lib.hid hk
  clear hn h hk
  go_enter Try.func13, Try.ntmps13
  go_wp2_with fail
  go_loopw [1, 5] (fun q i wr => ∃ (j : Nat) (qs : List Se), j ≤ n ∧ i = .int .i64 j ∧ q = .int .i64 ((kk k ps j : Nat) : Int) ∧ Below B w wr ∧ Keeps w wr ∧ (∀ i, j ≤ i → qs[i]? = ps[i]?) ∧ GQ B wr (.slice A n c) qs) (fun _ i _ => n - (intOf i).toNat)
  case atStart => exact ⟨0, ps, Nat.zero_le _, rfl, rfl, Below.refl _ _, fun _ _ _ _ h => h, fun _ _ => rfl, HQ.out⟩
  case round =>
    obtain ⟨j, qs, hj, rfl, rfl, hb, hkp, hqs, hq⟩ := hrel
    by_cases hlt : j < n
    · obtain ⟨p, hp⟩ : ∃ p, ps[j]? = some p := ⟨_, List.getElem?_eq_getElem (by rw [HN.out]; exact hlt)⟩
      obtain ⟨ob, oc, A1, c1, e1, -, hBo, fz, p0, p1, ho, -, -, hap, hint, hset⟩ := hq.read ((hqs j (Nat.le_refl _)).trans hp)
      obtain rfl : A = some ⟨ob, 0, none⟩ := by injection e1
      have hkk := kk_step (k := k) hp
      have hkb := Nat.le_trans (kk_le k ps (show j + 1 ≤ n from hlt)) HK.out
      have HQS := Lib.hid hqs
      have hg4 := grown_set (grown_refl wr (some ob)) (j * 2) (.int .i64 ((kk k ps j : Nat) : Int))
      have MI := Lib.hid (plce.markS B A1 (kk k ps j + 1) (nc p) c1 _ (wr.setCell ⟨ob, j * 2, none⟩ (.int .i64 ((kk k ps j : Nat) : Int))) (by omega) (ho.kept hg4 (by
        cases hv : (Value.slice A1 (nc p) c1).ownBlock with
        | none => exact .inl rfl
        | some g => exact .inr (fun e => hap g hv (by first | (injection e with e; exact e.symm) | (injection e with e; exact e) | injection e)))))
      have BB := Lib.hid (hb.setCell (p := ⟨ob, j * 2, none⟩) hBo (.int .i64 ((kk k ps j : Nat) : Int)))
      have KB := Lib.hid (show ∀ W', (wr.setCell ⟨ob, j * 2, none⟩ (.int .i64 ((kk k ps j : Nat) : Int))).grownBy W' (Value.slice A1 (nc p) c1).ownBlock → Keeps w W' from fun W' hg B' m x r hx => by
        have hx1 := hkp B' m x r hx
        have hx2 : (wr.setCell ⟨ob, j * 2, none⟩ (.int .i64 ((kk k ps j : Nat) : Int))).ownsRow B' 3 1 x m r := hx1.kept hg4 (by
          cases hv : x.ownBlock with
          | none => exact .inl rfl
          | some g => exact .inr (fun e => (hint B' m x r hx1 g hv).1 (by first | (injection e with e; exact e.symm) | (injection e with e; exact e) | injection e)))
        refine hx2.kept hg ?_
        cases hv : x.ownBlock with
        | none => exact .inl rfl
        | some g => exact .inr (fun e => (hint B' m x r hx1 g hv).2 e.symm))
      have HSET := Lib.hid (fun ys n W' => hset ((kk k ps j : Nat) : Int) ys n W')
      have f0 := fz (j * 2)
      have q1 : (wr.setCell ⟨ob, j * 2, none⟩ (.int .i64 ((kk k ps j : Nat) : Int))).cell? ⟨ob, j * 2 + 1, none⟩ = some (.slice A1 (nc p) c1) := by
        exact (World.cell?_setCell_other wr ⟨ob, j * 2, none⟩ _ _ (by intro e; injection e with e1 e2; omega)).trans p1
      have hlt2 : (j : Int) < (n : Int) := by omega
      have HKK := Lib.hid (show ((kk k ps (j + 1) : Nat) : Int) = ((kk k ps j + 1 + nc p * 2 : Nat) : Int) by rw [hkk])
      have b1 : ((kk k ps j : Nat) : Int) ≤ 16777216 := by omega
      have b0 : (0 : Int) ≤ ((kk k ps j : Nat) : Int) := Int.natCast_nonneg _
      have e4 : ((kk k ps j + 1 : Nat) : Int) = ((kk k ps j : Nat) : Int) + 1 := by omega
      rw [e4] at MI
      clear hset hap hg4 hq ho e1 fz hp hb hkk hkb e4 hint hqs hkp
      generalize hm : ((kk k ps j : Nat) : Int) = m at *
      generalize nc p = np at *
      go_wp2_with fail
      refine MI.out.mono ?_
      rintro e w2 ⟨rfl, hb2, hg2, ho2⟩
      have Q2 := Lib.hid (HSET.out _ _ _ hg2 ho2)
      have B2 := Lib.hid (BB.out.trans hb2)
      have K2 := Lib.hid (KB.out _ hg2)
      clear hb2 hg2 ho2 MI BB HSET p0 p1 q1 f0 KB
      go_wp2_with fail
      go_roundw
      case rel => exact ⟨j + 1, _, by omega, by go_num, by rw [HKK.out]; exact congrArg (Value.int .i64) (by omega), B2.out, K2.out, fun i hi => by rw [List.getElem?_set_ne (by omega)]; exact HQS.out i (by omega), Q2.out⟩
      case measure => simp [intOf]; omega
    · obtain rfl : j = n := by omega
      have HB := Lib.hid hb
      have HKP := Lib.hid hkp
      clear hq hb hkp hqs
      go_wp2_with fail
      go_ret
      exact ⟨rfl, HB.out, HKP.out⟩

section
variable {H : Type} {enc : TypeId × Value → H} {w : World} {base : Nat} {spare : Nat → Bool} {held : Bool}
theorem cells_sec : Try.prog.cellsOf 82 = 2 := by kernel_rfl
set_option maxRecDepth 100000 in
theorem open_sectors {fuel : Nat} {cs : List Value} {x : DataW H × List MemPlace} (h : DataW.trod enc Try.prog w base spare held fuel 22 cs = some x) :
    ∃ (A : Option Addr) (n c : Nat) (ps : List Se), cs = [.slice A n c] ∧ RdS false w w.heap.size A n ps ∧ n ≤ maxLen := by
  rcases open_slice Try.underlying22 h with ⟨rfl, _⟩ | ⟨a, n, c, m, _, D, Pl, rfl, _, hl, hm, hmm, _, hi⟩
  · exact ⟨none, 0, 0, [], rfl, ⟨rfl, fun k p h => by simp at h⟩, Nat.zero_le _⟩
  · have hnm : n ≤ m := by rw [hmm]; split <;> omega
    rw [cells_sec] at hi
    have each : ∀ i, i < n → ∃ (p : Se) (A1 : Option Addr) (c1 : Nat), w.cell? (a.add (i * 2)) = some (.int .i64 p.1) ∧ w.cell? (a.add (i * 2 + 1)) = some (.slice A1 (nc p) c1) ∧ RdZ 2 w w.heap.size A1 (nc p) p.2 ∧ nc p ≤ maxLen := by
      intro i hin
      obtain ⟨cs', hc, ht'⟩ := hi i (by omega)
      obtain ⟨_, hlen, hat⟩ := World.cells?_some hc
      obtain ⟨d, A1, n1, c1, zs, rfl, hrd, hle⟩ := secz.sector_cells hlen ht'
      have e1 : nc (d, zs) = n1 := by have := hrd.1; unfold nc; show zs.length / 2 = n1; omega
      subst e1
      have h0 := hat 0 (by decide)
      have h1 := hat 1 (by decide)
      rw [add_add] at h0 h1
      exact ⟨(d, zs), A1, c1, h0, h1, hrd, hle⟩
    have hex : ∀ i : Nat, ∃ p : Se, i < n → ∃ (A1 : Option Addr) (c1 : Nat), w.cell? (a.add (i * 2)) = some (.int .i64 p.1) ∧ w.cell? (a.add (i * 2 + 1)) = some (.slice A1 (nc p) c1) ∧ RdZ 2 w w.heap.size A1 (nc p) p.2 ∧ nc p ≤ maxLen := by
      intro i
      by_cases hin : i < n
      · obtain ⟨p, hp⟩ := each i hin
        exact ⟨p, fun _ => hp⟩
      · exact ⟨(0, []), fun h => absurd h hin⟩
    let F : Nat → Se := fun i => Classical.choose (hex i)
    have hF : ∀ i, i < n → ∃ (A1 : Option Addr) (c1 : Nat), w.cell? (a.add (i * 2)) = some (.int .i64 (F i).1) ∧ w.cell? (a.add (i * 2 + 1)) = some (.slice A1 (nc (F i)) c1) ∧ RdZ 2 w w.heap.size A1 (nc (F i)) (F i).2 ∧ nc (F i) ≤ maxLen := fun i hin => Classical.choose_spec (hex i) hin
    refine ⟨some a, n, c, (List.range n).map F, rfl, ⟨by simp, fun k p hp => ?_⟩, by omega⟩
    have hk : k < n := by have := (List.getElem?_eq_some_iff.1 hp).1; simpa using this
    rw [List.getElem?_map, List.getElem?_range hk] at hp
    obtain rfl : F k = p := by simpa using hp
    obtain ⟨A1, c1, h0, h1, h2, h3⟩ := hF k hk
    obtain ⟨b, o, sp⟩ := a
    obtain ⟨_, _, h00, -⟩ := hF 0 (by omega)
    rw [Nat.zero_mul, Addr.add_zero'] at h00
    obtain rfl : sp = none := World.cell?_spot h00
    rw [Addr.add_lit] at h0 h1
    exact ⟨b, o, A1, c1, rfl, World.block_lt_of_cell? _ _ h0, h0, h1, h2, h3, fun h => by cases h⟩
end
end Go.Proofs.Ytkndfklbonkbiaa.slsb
