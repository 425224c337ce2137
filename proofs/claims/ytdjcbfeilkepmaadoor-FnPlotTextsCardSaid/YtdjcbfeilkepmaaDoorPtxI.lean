/- Reading a plot's text: impl's readSites, readPlot, ParsePlot. -/
import Derived.Test.YtdjcbfeilkepmaaDoorPtxT
import Derived.Test.YtdjcbfeilkepmaaDoorParse
import Derived.Test.YtdjcbfeilkepmaaDoorShelf
import Derived.Test.YtdjcbfeilkepmaaDoorRws
import Derived.Test.YtdjcbfeilkepmaaDoorIntC
import Derived.OwnWalk
namespace Go.Proofs.YtdjcbfeilkepmaaDoor.ptxi
open Go.RowKit Go.Proofs.YtdjcbfeilkepmaaDoor.num Go.Proofs.YtdjcbfeilkepmaaDoor.read Go.Proofs.YtdjcbfeilkepmaaDoor.ints Go.Proofs.YtdjcbfeilkepmaaDoor.lst Go.Proofs.YtdjcbfeilkepmaaDoor.ats Go.Proofs.YtdjcbfeilkepmaaDoor.plt Go.Proofs.YtdjcbfeilkepmaaDoor.pltm Go.Proofs.YtdjcbfeilkepmaaDoor.ptx Go.Proofs.YtdjcbfeilkepmaaDoor.ptxt Go.Proofs.YtdjcbfeilkepmaaDoor.rws

/-- internal/bytealg.MaxLen holds some int. -/
def Mx (w : World) : Prop := ∃ m, w.cell? ⟨0, 0, none⟩ = some (.int .i64 m)
theorem mx_on {w w' : World} (h : Mx w) (hb : Below w.heap.size w w') : Mx w' := by
  obtain ⟨m, hm⟩ := h
  exact ⟨m, (hb.cell (World.block_lt_of_cell? _ _ hm)).trans hm⟩
theorem cut_any (s sep : ByteArray) (w : World) (hs : s.size ≤ 1048576) (hm : Mx w) :
    Calls Tryd.prog 72 #[.string s, .string sep] w fun e w' => e = .returned (.tuple #[.string ⟨(Lib.cut s.data.toList sep.data.toList).1.toArray⟩, .string ⟨(Lib.cut s.data.toList sep.data.toList).2.1.toArray⟩, .bool (Lib.cut s.data.toList sep.data.toList).2.2]) ∧ ∃ n, w' = w.drewN n := by
  obtain ⟨m, hm⟩ := hm
  exact Tryd.strings_Cut s sep m w (by omega) hm
theorem cut_le (l sep : List UInt8) : (Lib.cut l sep).1.length ≤ l.length ∧ (Lib.cut l sep).2.1.length ≤ l.length := by
  unfold Lib.cut
  split
  · refine ⟨?_, ?_⟩
    · show (l.take _).length ≤ _
      rw [List.length_take]; omega
    · show (l.drop _).length ≤ _
      rw [List.length_drop]; omega
  · exact ⟨Nat.le_refl _, Nat.zero_le _⟩
def p1 (t : ByteArray) : ByteArray := ⟨(k1 t).1.toArray⟩
def q1 (t : ByteArray) : ByteArray := ⟨(k1 t).2.1.toArray⟩
def p2 (t : ByteArray) : ByteArray := ⟨(k2 t).1.toArray⟩
def q2 (t : ByteArray) : ByteArray := ⟨(k2 t).2.1.toArray⟩
def p3 (t : ByteArray) : ByteArray := ⟨(k3 t).1.toArray⟩
def q3 (t : ByteArray) : ByteArray := ⟨(k3 t).2.1.toArray⟩
def p4 (t : ByteArray) : ByteArray := ⟨(k4 t).1.toArray⟩
def q4 (t : ByteArray) : ByteArray := ⟨(k4 t).2.1.toArray⟩
theorem sz_of (l : List UInt8) : (⟨l.toArray⟩ : ByteArray).size = l.length := rfl
theorem cut_sz {l : List UInt8} (sep : List UInt8) (h : l.length ≤ 1048576) : (⟨(Lib.cut l sep).1.toArray⟩ : ByteArray).size ≤ 1048576 ∧ (⟨(Lib.cut l sep).2.1.toArray⟩ : ByteArray).size ≤ 1048576 := by
  have := cut_le l sep
  rw [sz_of, sz_of]
  omega
theorem k_sz {t : ByteArray} (h : t.size ≤ 1048576) : ((p1 t).size ≤ 1048576 ∧ (q1 t).size ≤ 1048576) ∧ ((p2 t).size ≤ 1048576 ∧ (q2 t).size ≤ 1048576) ∧ ((p3 t).size ≤ 1048576 ∧ (q3 t).size ≤ 1048576) ∧ ((p4 t).size ≤ 1048576 ∧ (q4 t).size ≤ 1048576) := by
  have h1 : (p1 t).size ≤ 1048576 ∧ (q1 t).size ≤ 1048576 := cut_sz _ (by rw [len_list]; exact h)
  have h2 : (p2 t).size ≤ 1048576 ∧ (q2 t).size ≤ 1048576 := cut_sz _ h1.2
  have h3 : (p3 t).size ≤ 1048576 ∧ (q3 t).size ≤ 1048576 := cut_sz _ h2.2
  have h4 : (p4 t).size ≤ 1048576 ∧ (q4 t).size ≤ 1048576 := cut_sz _ h3.2
  exact ⟨h1, h2, h3, h4⟩
theorem rD_len (l : List UInt8) : (rD l).length ≤ 9 := by
  unfold rD
  split
  · rw [st_size]; assumption
  · exact Nat.zero_le _
theorem own_setbox {W : World} {B e s n b : Nat} {v : Value} {xs : List Value} (h : W.ownsRow B e s v n xs) (hlt : b < B) (i : Nat) (u : Value) : (W.setCell ⟨b, i, none⟩ u).ownsRow B e s v n xs :=
  own_kept_at h (grown_set (grown_refl _ (some b)) i u) (fun g e e2 => by injection e2 with e2; have := own_.row_ge h g e; omega)
theorem st_next {D : ByteArray} {k : Nat} (h : k < D.size) : st (D.data.toList.take (k + 1)) = st (D.data.toList.take k) ++ [(D[k].toNat : Int) - 48] := by
  rw [take_snoc D k h]; unfold st; rw [List.map_append]; rfl

set_option maxRecDepth 100000 in
set_option maxHeartbeats 2000000 in
theorem readSites (D : ByteArray) (w : World) :
    Calls Tryd.prog 74 #[.string D] w fun e w' => ∃ v, e = .returned v ∧ w'.ownsRow w.heap.size 3 1 v (rD D.data.toList).length (cellsI (rD D.data.toList)) ∧ Below w.heap.size w w' := by
  obtain ⟨iI, hiI, hzI0, hzI1, hzI2⟩ := info_parts infoI
  by_cases h9 : D.size ≤ 9
  · have d : decide ((9 : Int) < (D.size : Int)) = false := decide_eq_false (by omega)
    have HV := Lib.hid (show rD D.data.toList = st D.data.toList from by unfold rD; rw [if_pos (by rw [len_list]; exact h9)])
    go_enter Tryd.func74, Tryd.ntmps74
    go_wp2_with fail
    go_loopw [3, 4, 10] (fun v _ i wr => ∃ k : Nat, k ≤ D.size ∧ i = .int .i64 k ∧ wr.ownsRow w.heap.size 3 1 v k (cellsI (st (D.data.toList.take k))) ∧ Below w.heap.size w wr) (fun _ _ i _ => D.size - (intOf i).toNat)
    case atStart => exact ⟨0, Nat.zero_le _, rfl, World.ownsRow_nil .., Below.refl _ _⟩
    case round =>
      obtain ⟨k, hk, rfl, hO, hb⟩ := hrel
      by_cases hlt : k < D.size
      · have hlt2 : (k : Int) < (D.size : Int) := by omega
        obtain ⟨A5, c5, rfl⟩ := own_sliceZ hO
        have HX := Lib.hid (st_next hlt)
        have hbs := hb.size
        have hc0 : (0 : Int) ≤ (D[k].toNat : Int) := Int.natCast_nonneg _
        have hc1 : (D[k].toNat : Int) ≤ 255 := by have := D[k].toNat_lt; omega
        have e1 : IntKind.i64.wrap ((D[k].toNat : Int) - 48) = (D[k].toNat : Int) - 48 := IntWalk.i64_in _ (by omega)
        have O5 := Lib.hid (hO.alloc (.cells #[.int .i64 ((D[k].toNat : Int) - 48)] 3))
        have HB := Lib.hid hb
        clear hO hb
        generalize st (D.data.toList.take k) = xs at *
        go_wp2_with (at_builtin; refine wpList_append_any rfl (.tmp 13) (.tmp 19) 26 rfl w.heap.size 3 iI (.int .i64 0) 1 8 Tryd.underlying26 hiI hzI0 hzI1 hzI2 rfl (by decide) _ k (cellsI xs) rfl O5.out ⟨wr.heap.size, 0, none⟩ 1 1 [.int .i64 ((D[k].toNat : Int) - 48)] rfl rfl (cell_one_new _ _ _) (own_.one_cell _ rfl) (by unfold maxLen; omega) (by omega) (by rw [World.size_alloc]; omega) ?_; intro v6 w6 o6 g6 n6; obtain ⟨A6, c6, rfl⟩ := own_sliceZ o6)
        have O6 := Lib.hid (show w6.ownsRow w.heap.size 3 1 (.slice A6 (k + 1) c6) (k + 1) (cellsI (st (D.data.toList.take (k + 1)))) by rw [HX.out]; unfold cellsI; rw [List.map_append]; exact o6)
        have B6 := Lib.hid ((HB.out.alloc hbs (.cells #[.int .i64 ((D[k].toNat : Int) - 48)] 3)).grown g6 (by rw [World.size_alloc]; omega) (own_.row_ge O5.out))
        clear o6 g6 n6 O5 HB
        go_wp2_with fail
        go_roundw
        case rel => exact ⟨k + 1, by omega, by go_num, O6.out, B6.out⟩
        case measure => simp [intOf]; omega
      · obtain rfl : k = D.size := by omega
        rw [take_all D D.size (Nat.le_refl _)] at hO
        have HO := Lib.hid hO
        have HB := Lib.hid hb
        clear hO hb
        go_wp2_with fail
        go_ret
        exact ⟨_, rfl, by rw [HV.out, st_size, len_list]; exact HO.out, HB.out⟩
  · have d : decide ((9 : Int) < (D.size : Int)) = true := decide_eq_true (by omega)
    have HV := Lib.hid (show rD D.data.toList = [] from by unfold rD; rw [if_neg (by rw [len_list]; exact h9)])
    go_enter Tryd.func74, Tryd.ntmps74
    go_wp2_with fail
    go_ret
    exact ⟨_, rfl, by rw [HV.out]; exact World.ownsRow_nil .., Below.refl _ _⟩

set_option maxRecDepth 100000 in
set_option maxHeartbeats 4000000 in
theorem readPlot (t : ByteArray) (w : World) (hs : t.size ≤ 1048576) (ht : fmt.Tab w) (hm : Mx w) :
    Calls Tryd.prog 39 #[.string t] w fun e w' => ∃ v, e = .returned (.agg #[.int .i64 (rS t), .int .i64 (rA t), .int .i64 (rX t), .int .i64 (rY t), v]) ∧ w'.ownsRow w.heap.size 3 1 v (rL t).length (cellsI (rL t)) ∧ Below w.heap.size w w' := by
  obtain ⟨⟨sp1, sq1⟩, ⟨sp2, sq2⟩, ⟨sp3, sq3⟩, sp4, sq4⟩ := k_sz hs
  have K1 := Lib.hid (fun (W : World) (hb : Below w.heap.size w W) => show Calls Tryd.prog 72 #[.string t, .string ⟨#[58, 32]⟩] W (fun e w' => e = .returned (.tuple #[.string (p1 t), .string (q1 t), .bool (k1 t).2.2]) ∧ ∃ n, w' = W.drewN n) from cut_any t ⟨#[58, 32]⟩ W hs (mx_on hm hb))
  have K2 := Lib.hid (fun (W : World) (hb : Below w.heap.size w W) => show Calls Tryd.prog 72 #[.string (q1 t), .string ⟨#[32, 97, 116, 32]⟩] W (fun e w' => e = .returned (.tuple #[.string (p2 t), .string (q2 t), .bool (k2 t).2.2]) ∧ ∃ n, w' = W.drewN n) from cut_any (q1 t) ⟨#[32, 97, 116, 32]⟩ W sq1 (mx_on hm hb))
  have K3 := Lib.hid (fun (W : World) (hb : Below w.heap.size w W) => show Calls Tryd.prog 72 #[.string (q2 t), .string ⟨#[47]⟩] W (fun e w' => e = .returned (.tuple #[.string (p3 t), .string (q3 t), .bool (k3 t).2.2]) ∧ ∃ n, w' = W.drewN n) from cut_any (q2 t) ⟨#[47]⟩ W sq2 (mx_on hm hb))
  have K4 := Lib.hid (fun (W : World) (hb : Below w.heap.size w W) => show Calls Tryd.prog 72 #[.string (q3 t), .string ⟨#[32, 98, 121, 32]⟩] W (fun e w' => e = .returned (.tuple #[.string (p4 t), .string (q4 t), .bool (k4 t).2.2]) ∧ ∃ n, w' = W.drewN n) from cut_any (q3 t) ⟨#[32, 98, 121, 32]⟩ W sq3 (mx_on hm hb))
  have R1 := Lib.hid (fun (W : World) (hb : Below w.heap.size w W) => show Calls Tryd.prog 73 #[.string (p1 t)] W (fun e w' => e = .returned (.tuple #[.int .i64 (rS t), .bool (rdB (p1 t))]) ∧ Below W.heap.size W w') from parse.impl_any (p1 t) W sp1 (fmt.tab_on ht hb))
  have R2 := Lib.hid (fun (W : World) (hb : Below w.heap.size w W) => show Calls Tryd.prog 73 #[.string (p2 t)] W (fun e w' => e = .returned (.tuple #[.int .i64 (rA t), .bool (rdB (p2 t))]) ∧ Below W.heap.size W w') from parse.impl_any (p2 t) W sp2 (fmt.tab_on ht hb))
  have R3 := Lib.hid (fun (W : World) (hb : Below w.heap.size w W) => show Calls Tryd.prog 73 #[.string (p3 t)] W (fun e w' => e = .returned (.tuple #[.int .i64 (rX t), .bool (rdB (p3 t))]) ∧ Below W.heap.size W w') from parse.impl_any (p3 t) W sp3 (fmt.tab_on ht hb))
  have R4 := Lib.hid (fun (W : World) (hb : Below w.heap.size w W) => show Calls Tryd.prog 73 #[.string (p4 t)] W (fun e w' => e = .returned (.tuple #[.int .i64 (rY t), .bool (rdB (p4 t))]) ∧ Below W.heap.size W w') from parse.impl_any (p4 t) W sp4 (fmt.tab_on ht hb))
  have RL := Lib.hid (fun (W : World) => show Calls Tryd.prog 74 #[.string (q4 t)] W (fun e w' => ∃ v, e = .returned v ∧ w'.ownsRow W.heap.size 3 1 v (rL t).length (cellsI (rL t)) ∧ Below W.heap.size W w') from readSites (q4 t) W)
  have Z0 := Lib.hid (newS 28 #[.int .i64 0, .int .i64 0, .int .i64 0, .int .i64 0, .slice none 0 0] w)
  clear hs ht hm sp1 sq1 sp2 sq2 sp3 sq3 sp4 sq4
  generalize p1 t = a1 at *
  generalize q1 t = s1 at *
  generalize (k1 t).2.2 = b1 at *
  generalize rdB a1 = d1 at *
  generalize p2 t = a2 at *
  generalize q2 t = s2 at *
  generalize (k2 t).2.2 = b2 at *
  generalize rdB a2 = d2 at *
  generalize p3 t = a3 at *
  generalize q3 t = s3 at *
  generalize (k3 t).2.2 = b3 at *
  generalize rdB a3 = d3 at *
  generalize p4 t = a4 at *
  generalize q4 t = s4 at *
  generalize (k4 t).2.2 = b4 at *
  generalize rdB a4 = d4 at *
  generalize rS t = vS at *
  generalize rA t = vA at *
  generalize rX t = vX at *
  generalize rY t = vY at *
  generalize rL t = L at *
  go_enter Tryd.func39, Tryd.ntmps39
  go_wp2_with fail
  generalize w.alloc (.cells #[.int .i64 0, .int .i64 0, .int .i64 0, .int .i64 0, .slice none 0 0] 28) = W0 at *
  refine (K1.out W0 Z0.out.1).mono ?_
  rintro e wx ⟨rfl, j1, rfl⟩
  have Z1 := Lib.hid (Z0.out.drewN j1)
  generalize W0.drewN j1 = W1 at *
  clear Z0 K1
  go_wp2_with fail
  refine (K2.out W1 Z1.out.1).mono ?_
  rintro e wx ⟨rfl, j2, rfl⟩
  have Z2 := Lib.hid (Z1.out.drewN j2)
  generalize W1.drewN j2 = W2 at *
  clear Z1 K2
  go_wp2_with fail
  refine (K3.out W2 Z2.out.1).mono ?_
  rintro e wx ⟨rfl, j3, rfl⟩
  have Z3 := Lib.hid (Z2.out.drewN j3)
  generalize W2.drewN j3 = W3 at *
  clear Z2 K3
  go_wp2_with fail
  refine (K4.out W3 Z3.out.1).mono ?_
  rintro e wx ⟨rfl, j4, rfl⟩
  have Z4 := Lib.hid (Z3.out.drewN j4)
  generalize W3.drewN j4 = W4 at *
  clear Z3 K4
  have ZA := Lib.hid (Z4.out.alloc (.cells #[.int .i64 0, .int .i64 0, .int .i64 0, .int .i64 0, .slice none 0 0] 28))
  have PA := Lib.hid (Z4.out.next 28 #[.int .i64 0, .int .i64 0, .int .i64 0, .int .i64 0, .slice none 0 0])
  have hne := Z4.out.2.2.1
  clear Z4
  go_upto_region 6 with fail
  generalize W4.alloc (.cells #[.int .i64 0, .int .i64 0, .int .i64 0, .int .i64 0, .slice none 0 0] 28) = V0 at *
  generalize W4.heap.size = bp at *
  go_wp2_with fail
  refine (R1.out V0 ZA.out.1).mono ?_
  rintro e U0 ⟨rfl, hb⟩
  have PB0 := Lib.hid (PA.out.old hb)
  have ZB0 := Lib.hid (ZA.out.old hb)
  clear hb ZA PA
  have c0 : U0.cell? ⟨bp, 0, none⟩ = some (.int .i64 0) := PB0.out.cell 0
  have cf0 := PB0.out.frozen 0
  have c1 : U0.cell? ⟨bp, 1, none⟩ = some (.int .i64 0) := PB0.out.cell 1
  have cf1 := PB0.out.frozen 1
  have c2 : U0.cell? ⟨bp, 2, none⟩ = some (.int .i64 0) := PB0.out.cell 2
  have cf2 := PB0.out.frozen 2
  have c3 : U0.cell? ⟨bp, 3, none⟩ = some (.int .i64 0) := PB0.out.cell 3
  have cf3 := PB0.out.frozen 3
  have c4 : U0.cell? ⟨bp, 4, none⟩ = some (.slice none 0 0) := PB0.out.cell 4
  have cf4 := PB0.out.frozen 4
  have PC0 := Lib.hid (show AtS 28 #[.int .i64 vS, .int .i64 0, .int .i64 0, .int .i64 0, .slice none 0 0] w (U0.setCell ⟨bp, 0, none⟩ (.int .i64 vS)) bp from PB0.out.set 0 (.int .i64 vS))
  have ZC0 := Lib.hid (ZB0.out.other (b' := bp) (Nat.le_of_lt hne) (Nat.ne_of_lt hne) 0 (.int .i64 vS))
  go_upto_region 7 with fail
  clear PB0 ZB0
  clear c0 cf0 c1 cf1 c2 cf2 c3 cf3 c4 cf4
  generalize U0.setCell ⟨bp, 0, none⟩ (.int .i64 vS) = V1 at *
  go_wp2_with fail
  refine (R2.out V1 ZC0.out.1).mono ?_
  rintro e U1 ⟨rfl, hb⟩
  have PB1 := Lib.hid (PC0.out.old hb)
  have ZB1 := Lib.hid (ZC0.out.old hb)
  clear hb ZC0 PC0
  have c0 : U1.cell? ⟨bp, 0, none⟩ = some (.int .i64 vS) := PB1.out.cell 0
  have cf0 := PB1.out.frozen 0
  have c1 : U1.cell? ⟨bp, 1, none⟩ = some (.int .i64 0) := PB1.out.cell 1
  have cf1 := PB1.out.frozen 1
  have c2 : U1.cell? ⟨bp, 2, none⟩ = some (.int .i64 0) := PB1.out.cell 2
  have cf2 := PB1.out.frozen 2
  have c3 : U1.cell? ⟨bp, 3, none⟩ = some (.int .i64 0) := PB1.out.cell 3
  have cf3 := PB1.out.frozen 3
  have c4 : U1.cell? ⟨bp, 4, none⟩ = some (.slice none 0 0) := PB1.out.cell 4
  have cf4 := PB1.out.frozen 4
  have PC1 := Lib.hid (show AtS 28 #[.int .i64 vS, .int .i64 vA, .int .i64 0, .int .i64 0, .slice none 0 0] w (U1.setCell ⟨bp, 1, none⟩ (.int .i64 vA)) bp from PB1.out.set 1 (.int .i64 vA))
  have ZC1 := Lib.hid (ZB1.out.other (b' := bp) (Nat.le_of_lt hne) (Nat.ne_of_lt hne) 1 (.int .i64 vA))
  go_upto_region 8 with fail
  clear PB1 ZB1
  clear c0 cf0 c1 cf1 c2 cf2 c3 cf3 c4 cf4
  generalize U1.setCell ⟨bp, 1, none⟩ (.int .i64 vA) = V2 at *
  go_wp2_with fail
  refine (R3.out V2 ZC1.out.1).mono ?_
  rintro e U2 ⟨rfl, hb⟩
  have PB2 := Lib.hid (PC1.out.old hb)
  have ZB2 := Lib.hid (ZC1.out.old hb)
  clear hb ZC1 PC1
  have c0 : U2.cell? ⟨bp, 0, none⟩ = some (.int .i64 vS) := PB2.out.cell 0
  have cf0 := PB2.out.frozen 0
  have c1 : U2.cell? ⟨bp, 1, none⟩ = some (.int .i64 vA) := PB2.out.cell 1
  have cf1 := PB2.out.frozen 1
  have c2 : U2.cell? ⟨bp, 2, none⟩ = some (.int .i64 0) := PB2.out.cell 2
  have cf2 := PB2.out.frozen 2
  have c3 : U2.cell? ⟨bp, 3, none⟩ = some (.int .i64 0) := PB2.out.cell 3
  have cf3 := PB2.out.frozen 3
  have c4 : U2.cell? ⟨bp, 4, none⟩ = some (.slice none 0 0) := PB2.out.cell 4
  have cf4 := PB2.out.frozen 4
  have PC2 := Lib.hid (show AtS 28 #[.int .i64 vS, .int .i64 vA, .int .i64 vX, .int .i64 0, .slice none 0 0] w (U2.setCell ⟨bp, 2, none⟩ (.int .i64 vX)) bp from PB2.out.set 2 (.int .i64 vX))
  have ZC2 := Lib.hid (ZB2.out.other (b' := bp) (Nat.le_of_lt hne) (Nat.ne_of_lt hne) 2 (.int .i64 vX))
  go_upto_region 9 with fail
  clear PB2 ZB2
  clear c0 cf0 c1 cf1 c2 cf2 c3 cf3 c4 cf4
  generalize U2.setCell ⟨bp, 2, none⟩ (.int .i64 vX) = V3 at *
  go_wp2_with fail
  refine (R4.out V3 ZC2.out.1).mono ?_
  rintro e U3 ⟨rfl, hb⟩
  have PB3 := Lib.hid (PC2.out.old hb)
  have ZB3 := Lib.hid (ZC2.out.old hb)
  clear hb ZC2 PC2
  have c0 : U3.cell? ⟨bp, 0, none⟩ = some (.int .i64 vS) := PB3.out.cell 0
  have cf0 := PB3.out.frozen 0
  have c1 : U3.cell? ⟨bp, 1, none⟩ = some (.int .i64 vA) := PB3.out.cell 1
  have cf1 := PB3.out.frozen 1
  have c2 : U3.cell? ⟨bp, 2, none⟩ = some (.int .i64 vX) := PB3.out.cell 2
  have cf2 := PB3.out.frozen 2
  have c3 : U3.cell? ⟨bp, 3, none⟩ = some (.int .i64 0) := PB3.out.cell 3
  have cf3 := PB3.out.frozen 3
  have c4 : U3.cell? ⟨bp, 4, none⟩ = some (.slice none 0 0) := PB3.out.cell 4
  have cf4 := PB3.out.frozen 4
  have PC3 := Lib.hid (show AtS 28 #[.int .i64 vS, .int .i64 vA, .int .i64 vX, .int .i64 vY, .slice none 0 0] w (U3.setCell ⟨bp, 3, none⟩ (.int .i64 vY)) bp from PB3.out.set 3 (.int .i64 vY))
  have ZC3 := Lib.hid (ZB3.out.other (b' := bp) (Nat.le_of_lt hne) (Nat.ne_of_lt hne) 3 (.int .i64 vY))
  go_upto_region 10 with fail
  clear PB3 ZB3
  clear c0 cf0 c1 cf1 c2 cf2 c3 cf3 c4 cf4
  generalize U3.setCell ⟨bp, 3, none⟩ (.int .i64 vY) = V4 at *
  go_wp2_with fail
  refine (RL.out V4).mono ?_
  rintro e U4 ⟨vL, rfl, ho, hb⟩
  obtain ⟨AL, cL, rfl⟩ := own_sliceZ ho
  have hpV := PC3.out.2.2.1
  have hzV := ZC3.out.2.2.1
  have PB4 := Lib.hid (PC3.out.old hb)
  have ZB4 := Lib.hid (ZC3.out.old hb)
  have hVS := ZC3.out.1.size
  clear hb PC3 ZC3
  have c0 : U4.cell? ⟨bp, 0, none⟩ = some (.int .i64 vS) := PB4.out.cell 0
  have cf0 := PB4.out.frozen 0
  have c1 : U4.cell? ⟨bp, 1, none⟩ = some (.int .i64 vA) := PB4.out.cell 1
  have cf1 := PB4.out.frozen 1
  have c2 : U4.cell? ⟨bp, 2, none⟩ = some (.int .i64 vX) := PB4.out.cell 2
  have cf2 := PB4.out.frozen 2
  have c3 : U4.cell? ⟨bp, 3, none⟩ = some (.int .i64 vY) := PB4.out.cell 3
  have cf3 := PB4.out.frozen 3
  have c4 : U4.cell? ⟨bp, 4, none⟩ = some (.slice none 0 0) := PB4.out.cell 4
  have cf4 := PB4.out.frozen 4
  have z0 : U4.cell? ⟨w.heap.size, 0, none⟩ = some (.int .i64 0) := ZB4.out.cell 0
  have zf0 := ZB4.out.frozen 0
  have z1 : U4.cell? ⟨w.heap.size, 1, none⟩ = some (.int .i64 0) := ZB4.out.cell 1
  have zf1 := ZB4.out.frozen 1
  have z2 : U4.cell? ⟨w.heap.size, 2, none⟩ = some (.int .i64 0) := ZB4.out.cell 2
  have zf2 := ZB4.out.frozen 2
  have z3 : U4.cell? ⟨w.heap.size, 3, none⟩ = some (.int .i64 0) := ZB4.out.cell 3
  have zf3 := ZB4.out.frozen 3
  have z4 : U4.cell? ⟨w.heap.size, 4, none⟩ = some (.slice none 0 0) := ZB4.out.cell 4
  have zf4 := ZB4.out.frozen 4
  have PC4 := Lib.hid (show AtS 28 #[.int .i64 vS, .int .i64 vA, .int .i64 vX, .int .i64 vY, .slice AL L.length cL] w (U4.setCell ⟨bp, 4, none⟩ (.slice AL L.length cL)) bp from PB4.out.set 4 (.slice AL L.length cL))
  have ZC4 := Lib.hid (ZB4.out.other (b' := bp) (Nat.le_of_lt hne) (Nat.ne_of_lt hne) 4 (.slice AL L.length cL))
  have OC4 := Lib.hid (own_setbox ho hpV 4 (.slice AL L.length cL))
  clear PB4 ZB4 ho
  go_upto_region 11 with fail
  clear c0 cf0 c1 cf1 c2 cf2 c3 cf3 c4 cf4
  clear z0 zf0 z1 zf1 z2 zf2 z3 zf3 z4 zf4
  generalize U4.setCell ⟨bp, 4, none⟩ (.slice AL L.length cL) = V5 at *
  have c0 : V5.cell? ⟨bp, 0, none⟩ = some (.int .i64 vS) := PC4.out.cell 0
  have cf0 := PC4.out.frozen 0
  have c1 : V5.cell? ⟨bp, 1, none⟩ = some (.int .i64 vA) := PC4.out.cell 1
  have cf1 := PC4.out.frozen 1
  have c2 : V5.cell? ⟨bp, 2, none⟩ = some (.int .i64 vX) := PC4.out.cell 2
  have cf2 := PC4.out.frozen 2
  have c3 : V5.cell? ⟨bp, 3, none⟩ = some (.int .i64 vY) := PC4.out.cell 3
  have cf3 := PC4.out.frozen 3
  have c4 : V5.cell? ⟨bp, 4, none⟩ = some (.slice AL L.length cL) := PC4.out.cell 4
  have cf4 := PC4.out.frozen 4
  have z0 : V5.cell? ⟨w.heap.size, 0, none⟩ = some (.int .i64 0) := ZC4.out.cell 0
  have zf0 := ZC4.out.frozen 0
  have z1 : V5.cell? ⟨w.heap.size, 1, none⟩ = some (.int .i64 0) := ZC4.out.cell 1
  have zf1 := ZC4.out.frozen 1
  have z2 : V5.cell? ⟨w.heap.size, 2, none⟩ = some (.int .i64 0) := ZC4.out.cell 2
  have zf2 := ZC4.out.frozen 2
  have z3 : V5.cell? ⟨w.heap.size, 3, none⟩ = some (.int .i64 0) := ZC4.out.cell 3
  have zf3 := ZC4.out.frozen 3
  have z4 : V5.cell? ⟨w.heap.size, 4, none⟩ = some (.slice none 0 0) := ZC4.out.cell 4
  have zf4 := ZC4.out.frozen 4
  have HE := Lib.hid (((((ZC4.out.set 0 (.int .i64 vS)).set 1 (.int .i64 vA)).set 2 (.int .i64 vX)).set 3 (.int .i64 vY)).set 4 (.slice AL L.length cL))
  have HO := Lib.hid (own_setbox (own_setbox (own_setbox (own_setbox (own_setbox OC4.out hzV 0 (.int .i64 vS)) hzV 1 (.int .i64 vA)) hzV 2 (.int .i64 vX)) hzV 3 (.int .i64 vY)) hzV 4 (.slice AL L.length cL))
  go_wp2_with fail
  have hl := HE.out.load Tryd.underlying28 rfl (by kernel_rfl)
  refine bodyPost_ret (v := .agg #[.int .i64 vS, .int .i64 vA, .int .i64 vX, .int .i64 vY, .slice AL L.length cL]) ?_ rfl ⟨_, rfl, own_.own_base HO.out hVS, HE.out.1⟩
  rw [results_cell1 rfl]
  simp [asAddr, Result.andThen, hl]

theorem pp_is (t : ByteArray) : ppB t = (plB (rS t) (rA t) (rX t) (rY t) (rL t) (rL t).length && ((ptV (rS t) (rA t) (rX t) (rY t) (rL t) (rL t).length).toList == t.toList)) := by
  unfold ppB ptV
  cases plB (rS t) (rA t) (rX t) (rY t) (rL t) (rL t).length <;> rfl
set_option maxRecDepth 100000 in
set_option maxHeartbeats 8000000 in
theorem parsePlotI (t : ByteArray) (w : World) (hs : t.size ≤ 1048576) (ht : fmt.Tab w) (hm : Mx w) :
    Calls Tryd.prog 11 #[.string t] w fun e w' => ∃ v, e = .returned (.tuple #[.agg #[.int .i64 (pS t), .int .i64 (pA t), .int .i64 (pX t), .int .i64 (pY t), v], .bool (ppB t)]) ∧ w'.ownsRow w.heap.size 3 1 v (pL t).length (cellsI (pL t)) ∧ Below w.heap.size w w' := by
  have RP := Lib.hid (fun (W : World) (hb : Below w.heap.size w W) => readPlot t W hs (fmt.tab_on ht hb) (mx_on hm hb))
  have hB := pp_is t
  have PT := Lib.hid (fun (A : Option Addr) (c : Nat) (W : World) (hb : Below w.heap.size w W) (h : RdI W W.heap.size A (rL t).length (rL t)) => plotTextI (rS t) (rA t) (rX t) (rY t) (rL t) A (rL t).length c W (by have := rD_len (k4 t).2.1; unfold rL; omega) h (fmt.tab_on ht hb))
  have HNo := Lib.hid (fun (h : ppB t = false) => show pS t = 0 ∧ pA t = 0 ∧ pX t = 0 ∧ pY t = 0 ∧ pL t = [] ∧ ppB t = false from ⟨(p_no h).1, (p_no h).2.1, (p_no h).2.2.1, (p_no h).2.2.2.1, (p_no h).2.2.2.2, h⟩)
  have HYe := Lib.hid (fun (h : ppB t = true) => show pS t = rS t ∧ pA t = rA t ∧ pX t = rX t ∧ pY t = rY t ∧ pL t = rL t ∧ ppB t = true from ⟨(p_yes h).1, (p_yes h).2.1, (p_yes h).2.2.1, (p_yes h).2.2.2.1, (p_yes h).2.2.2.2, h⟩)
  have Z0 := Lib.hid (newS 28 #[.int .i64 0, .int .i64 0, .int .i64 0, .int .i64 0, .slice none 0 0] w)
  have HB := Lib.hid hB
  clear hs ht hm hB
  generalize ptV (rS t) (rA t) (rX t) (rY t) (rL t) (rL t).length = u at *
  generalize plB (rS t) (rA t) (rX t) (rY t) (rL t) (rL t).length = q at *
  generalize hS : rS t = vS at *
  generalize hA : rA t = vA at *
  generalize hX : rX t = vX at *
  generalize hY : rY t = vY at *
  generalize hL : rL t = L at *
  generalize hn : L.length = n at *
  have HLn := Lib.hid hn
  clear hS hA hX hY hL hn
  go_enter Tryd.func11, Tryd.ntmps11
  go_wp2_with fail
  generalize w.alloc (.cells #[.int .i64 0, .int .i64 0, .int .i64 0, .int .i64 0, .slice none 0 0] 28) = W0 at *
  refine (RP.out W0 Z0.out.1).mono ?_
  rintro e W1 ⟨vL, rfl, ho, hb⟩
  obtain ⟨AL, cL, rfl⟩ := own_sliceZ ho
  have hzV := Z0.out.2.2.1
  have hVS := Z0.out.1.size
  have Z1 := Lib.hid ((Z0.out.old hb).alloc (.cells #[.int .i64 vS, .int .i64 vA, .int .i64 vX, .int .i64 vY, .slice AL n cL] 28))
  have P1 := Lib.hid ((Z0.out.old hb).next 28 #[.int .i64 vS, .int .i64 vA, .int .i64 vX, .int .i64 vY, .slice AL n cL])
  have O1 := Lib.hid (own_.own_below ho ((Below.refl W1.heap.size W1).alloc (Nat.le_refl _) (.cells #[.int .i64 vS, .int .i64 vA, .int .i64 vX, .int .i64 vY, .slice AL n cL] 28)))
  clear hb ho Z0 RP
  go_upto_region 2 with fail
  generalize W1.alloc (.cells #[.int .i64 vS, .int .i64 vA, .int .i64 vX, .int .i64 vY, .slice AL n cL] 28) = W2 at *
  generalize W1.heap.size = bp at *
  have c0 : W2.cell? ⟨bp, 0, none⟩ = some (.int .i64 vS) := P1.out.cell 0
  have cf0 := P1.out.frozen 0
  have c1 : W2.cell? ⟨bp, 1, none⟩ = some (.int .i64 vA) := P1.out.cell 1
  have cf1 := P1.out.frozen 1
  have c2 : W2.cell? ⟨bp, 2, none⟩ = some (.int .i64 vX) := P1.out.cell 2
  have cf2 := P1.out.frozen 2
  have c3 : W2.cell? ⟨bp, 3, none⟩ = some (.int .i64 vY) := P1.out.cell 3
  have cf3 := P1.out.frozen 3
  have c4 : W2.cell? ⟨bp, 4, none⟩ = some (.slice AL n cL) := P1.out.cell 4
  have cf4 := P1.out.frozen 4
  go_wp2_with fail
  refine (PT.out AL cL W2 Z1.out.1 (intc.rd_of_own O1.out HLn.out)).mono ?_
  rintro e W3 ⟨rfl, hb⟩
  have ZQ := Lib.hid (Z1.out.old hb)
  have PQ := Lib.hid (P1.out.old hb)
  have OQ := Lib.hid (own_.own_below O1.out hb)
  clear c0 cf0 c1 cf1 c2 cf2 c3 cf3 c4 cf4
  clear hb Z1 P1 O1 PT
  cases q
  · have HN := Lib.hid (HNo.out (by rw [HB.out]; rfl))
    have z0 : W3.cell? ⟨w.heap.size, 0, none⟩ = some (.int .i64 0) := ZQ.out.cell 0
    have zf0 := ZQ.out.frozen 0
    have z1 : W3.cell? ⟨w.heap.size, 1, none⟩ = some (.int .i64 0) := ZQ.out.cell 1
    have zf1 := ZQ.out.frozen 1
    have z2 : W3.cell? ⟨w.heap.size, 2, none⟩ = some (.int .i64 0) := ZQ.out.cell 2
    have zf2 := ZQ.out.frozen 2
    have z3 : W3.cell? ⟨w.heap.size, 3, none⟩ = some (.int .i64 0) := ZQ.out.cell 3
    have zf3 := ZQ.out.frozen 3
    have z4 : W3.cell? ⟨w.heap.size, 4, none⟩ = some (.slice none 0 0) := ZQ.out.cell 4
    have zf4 := ZQ.out.frozen 4
    have HE := Lib.hid (((((ZQ.out.set 0 (.int .i64 0)).set 1 (.int .i64 0)).set 2 (.int .i64 0)).set 3 (.int .i64 0)).set 4 (.slice none 0 0))
    go_wp2_with fail
    have hl := HE.out.load Tryd.underlying28 rfl (by kernel_rfl)
    refine bodyPost_ret (v := .tuple #[.agg #[.int .i64 0, .int .i64 0, .int .i64 0, .int .i64 0, .slice none 0 0], .bool false]) ?_ rfl ⟨.slice none 0 0, by rw [HN.out.1, HN.out.2.1, HN.out.2.2.1, HN.out.2.2.2.1, HN.out.2.2.2.2.2], by rw [HN.out.2.2.2.2.1]; exact World.ownsRow_nil .., HE.out.1⟩
    rw [results_cell_tmp rfl]
    simp [asAddr, Result.andThen, hl]
  · cases hc : (u.toList == t.toList)
    · have HN := Lib.hid (HNo.out (by rw [HB.out, hc]; rfl))
      have z0 : W3.cell? ⟨w.heap.size, 0, none⟩ = some (.int .i64 0) := ZQ.out.cell 0
      have zf0 := ZQ.out.frozen 0
      have z1 : W3.cell? ⟨w.heap.size, 1, none⟩ = some (.int .i64 0) := ZQ.out.cell 1
      have zf1 := ZQ.out.frozen 1
      have z2 : W3.cell? ⟨w.heap.size, 2, none⟩ = some (.int .i64 0) := ZQ.out.cell 2
      have zf2 := ZQ.out.frozen 2
      have z3 : W3.cell? ⟨w.heap.size, 3, none⟩ = some (.int .i64 0) := ZQ.out.cell 3
      have zf3 := ZQ.out.frozen 3
      have z4 : W3.cell? ⟨w.heap.size, 4, none⟩ = some (.slice none 0 0) := ZQ.out.cell 4
      have zf4 := ZQ.out.frozen 4
      have HE := Lib.hid (((((ZQ.out.set 0 (.int .i64 0)).set 1 (.int .i64 0)).set 2 (.int .i64 0)).set 3 (.int .i64 0)).set 4 (.slice none 0 0))
      go_wp2_with fail
      have hl := HE.out.load Tryd.underlying28 rfl (by kernel_rfl)
      refine bodyPost_ret (v := .tuple #[.agg #[.int .i64 0, .int .i64 0, .int .i64 0, .int .i64 0, .slice none 0 0], .bool false]) ?_ rfl ⟨.slice none 0 0, by rw [HN.out.1, HN.out.2.1, HN.out.2.2.1, HN.out.2.2.2.1, HN.out.2.2.2.2.2], by rw [HN.out.2.2.2.2.1]; exact World.ownsRow_nil .., HE.out.1⟩
      rw [results_cell_tmp rfl]
      simp [asAddr, Result.andThen, hl]
    · have HY := Lib.hid (HYe.out (by rw [HB.out, hc]; rfl))
      have c0 : W3.cell? ⟨bp, 0, none⟩ = some (.int .i64 vS) := PQ.out.cell 0
      have cf0 := PQ.out.frozen 0
      have c1 : W3.cell? ⟨bp, 1, none⟩ = some (.int .i64 vA) := PQ.out.cell 1
      have cf1 := PQ.out.frozen 1
      have c2 : W3.cell? ⟨bp, 2, none⟩ = some (.int .i64 vX) := PQ.out.cell 2
      have cf2 := PQ.out.frozen 2
      have c3 : W3.cell? ⟨bp, 3, none⟩ = some (.int .i64 vY) := PQ.out.cell 3
      have cf3 := PQ.out.frozen 3
      have c4 : W3.cell? ⟨bp, 4, none⟩ = some (.slice AL n cL) := PQ.out.cell 4
      have cf4 := PQ.out.frozen 4
      have z0 : W3.cell? ⟨w.heap.size, 0, none⟩ = some (.int .i64 0) := ZQ.out.cell 0
      have zf0 := ZQ.out.frozen 0
      have z1 : W3.cell? ⟨w.heap.size, 1, none⟩ = some (.int .i64 0) := ZQ.out.cell 1
      have zf1 := ZQ.out.frozen 1
      have z2 : W3.cell? ⟨w.heap.size, 2, none⟩ = some (.int .i64 0) := ZQ.out.cell 2
      have zf2 := ZQ.out.frozen 2
      have z3 : W3.cell? ⟨w.heap.size, 3, none⟩ = some (.int .i64 0) := ZQ.out.cell 3
      have zf3 := ZQ.out.frozen 3
      have z4 : W3.cell? ⟨w.heap.size, 4, none⟩ = some (.slice none 0 0) := ZQ.out.cell 4
      have zf4 := ZQ.out.frozen 4
      have HE := Lib.hid (((((ZQ.out.set 0 (.int .i64 vS)).set 1 (.int .i64 vA)).set 2 (.int .i64 vX)).set 3 (.int .i64 vY)).set 4 (.slice AL n cL))
      have HO := Lib.hid (own_setbox (own_setbox (own_setbox (own_setbox (own_setbox OQ.out hzV 0 (.int .i64 vS)) hzV 1 (.int .i64 vA)) hzV 2 (.int .i64 vX)) hzV 3 (.int .i64 vY)) hzV 4 (.slice AL n cL))
      go_wp2_with fail
      have hl := HE.out.load Tryd.underlying28 rfl (by kernel_rfl)
      refine bodyPost_ret (v := .tuple #[.agg #[.int .i64 vS, .int .i64 vA, .int .i64 vX, .int .i64 vY, .slice AL n cL], .bool true]) ?_ rfl ⟨.slice AL n cL, by rw [HY.out.1, HY.out.2.1, HY.out.2.2.1, HY.out.2.2.2.1, HY.out.2.2.2.2.2], by rw [HY.out.2.2.2.2.1, HLn.out]; exact own_.own_base HO.out hVS, HE.out.1⟩
      rw [results_cell_tmp rfl]
      simp [asAddr, Result.andThen, hl]

end Go.Proofs.YtdjcbfeilkepmaaDoor.ptxi
