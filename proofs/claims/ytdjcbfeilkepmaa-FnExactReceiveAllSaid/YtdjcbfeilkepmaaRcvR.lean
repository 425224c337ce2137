/- spec's l9Own, l9Receive, Receive. -/
import Derived.Test.YtdjcbfeilkepmaaRcvP
import Derived.Test.YtdjcbfeilkepmaaRcvA
import Derived.Test.YtdjcbfeilkepmaaPosT
import Derived.Test.YtdjcbfeilkepmaaFrmE
import Derived.Deep.RegionHeld3
import Derived.Deep.AppendLies
import Derived.Deep.CutBlock
import Derived.Deep.CutRange
import Derived.Lib.FrozenHead
import Derived.Test.YtdjcbfeilkepmaaTailH
namespace Go.Proofs.Ytdjcbfeilkepmaa.rcvr
open Go.RowKit Go.Proofs.Ytdjcbfeilkepmaa.pos Go.Proofs.Ytdjcbfeilkepmaa.in_ Go.Proofs.Ytdjcbfeilkepmaa.rcv Go.Proofs.Ytdjcbfeilkepmaa.rcvm Go.Proofs.Ytdjcbfeilkepmaa.ats Go.Proofs.Ytdjcbfeilkepmaa.lst Go.Proofs.Ytdjcbfeilkepmaa.rcvg Go.Proofs.Ytdjcbfeilkepmaa.rcvk Go.Proofs.Ytdjcbfeilkepmaa.rcvp Go.Proofs.Ytdjcbfeilkepmaa.tailh

theorem own_some {w : World} {B e s n : Nat} {v : Value} {xs : List Value} (h : w.ownsRow B e s v n xs) (hn : v ≠ .slice none 0 0) : ∃ g c, v = .slice (some ⟨g, 0, none⟩) n c := by
  rcases h.2 with ⟨rfl, _⟩ | ⟨g, cap, cur, rfl, _⟩
  · exact absurd rfl hn
  · exact ⟨_, _, rfl⟩
set_option maxRecDepth 100000 in
set_option maxHeartbeats 2000000 in
theorem own9 (m : Int) (hs : List Hd) (t : Int) (b o c : Nat) (w : World) (hn : hs.length ≤ 1048576) (h : RdH w w.heap.size (some ⟨b, o, none⟩) hs) :
    Calls Try.prog 102 #[.agg #[.int .i64 m, .slice (some ⟨b, o, none⟩) hs.length c], .int .i64 t] w
      fun e w' => ∃ g c', e = .returned (.agg #[.int .i64 t, .slice (some ⟨g, 0, none⟩) hs.length c']) ∧ w'.ownsRow w.heap.size 137 10 (.slice (some ⟨g, 0, none⟩) hs.length c') hs.length (rows hs) ∧ Below w.heap.size w w' := by
  have B0 := Lib.hid ((newS 71 #[.int .i64 m, .slice (some ⟨b, o, none⟩) hs.length c] w).alloc (.cells #[.int .i64 0, .slice none 0 0] 71))
  have R0 := Lib.hid ((newS 71 #[.int .i64 m, .slice (some ⟨b, o, none⟩) hs.length c] w).next 71 #[.int .i64 0, .slice none 0 0])
  rw [World.size_alloc] at R0
  have NW := Lib.hid (RdH.news (h.next (B0.out.alloc (.cells #[] 137)).1))
  have RL := Lib.hid (rows_length hs)
  obtain ⟨i0, hi, hz0, hz1, hz2⟩ := info_parts infoH
  generalize hs.length = n at *
  clear h
  go_enter Try.func102, Try.ntmps102
  go_upto_region 1 with fail
  generalize (w.alloc (.cells #[.int .i64 m, .slice (some ⟨b, o, none⟩) n c] 71)).alloc (.cells #[.int .i64 0, .slice none 0 0] 71) = V at *
  have LB := Lib.hid (show w.heap.size + 1 < V.heap.size from R0.out.2.2.1)
  have OE := Lib.hid (own_emptyZ V 137 10)
  have oe := OE.out
  have nw := NW.out
  have rl := RL.out
  have a1 : (V.alloc (.cells #[] 137)).cell? ⟨w.heap.size, 1, none⟩ = some (.slice (some ⟨b, o, none⟩) n c) := (B0.out.alloc _).cell 1
  go_wp2_with (at_builtin; go_loud (refine wpList_append_own _ rfl (.tmp 6) (.tmp 8) 69 rfl V.heap.size 137 i0 (hv zero) 10 80 Try.underlying69 hi hz0 hz1 hz2 rfl (by decide) _ 0 [] rfl oe ⟨b, o, none⟩ n c (rows hs) rfl rl nw (rows_one_cell _) (by unfold maxLen; omega) (by omega) (by rw [World.size_alloc]; omega) ?_; intro v4 w4 hown4 hgrow4 hnil4; have HO4 := Lib.hid hown4; have R4 := Lib.hid (at_grow (R0.out.alloc (.cells #[] 137)) oe LB.out (Nat.le_of_lt (Nat.lt_of_le_of_lt (Nat.le_succ _) LB.out)) hgrow4); have hne : v4 ≠ .slice none 0 0 := fun e => (by have q := (hnil4.1 e).1; cases q); clear hgrow4 hnil4 oe nw; obtain ⟨g, c4, rfl⟩ := own_some hown4 hne; clear hown4 hne; have r0 : w4.cell? ⟨w.heap.size + 1, 0, none⟩ = some (.int .i64 0) := R4.out.cell 0; have r1 : w4.cell? ⟨w.heap.size + 1, 1, none⟩ = some (.slice none 0 0) := R4.out.cell 1; have rf0 := R4.out.frozen 0; have rf1 := R4.out.frozen 1))
  have HE := Lib.hid ((R4.out.set 0 (.int .i64 t)).set 1 (.slice (some ⟨g, 0, none⟩) (0 + n) c4))
  have HO9 := Lib.hid (own_setbox (own_setbox HO4.out LB.out 0 (.int .i64 t)) LB.out 1 (.slice (some ⟨g, 0, none⟩) (0 + n) c4))
  rw [Nat.zero_add] at HE HO9
  have hl := HE.out.load Try.underlying71 rfl (by kernel_rfl)
  (try simp only [Exit.inBlock, Exit.then])
  refine bodyPost_ret (v := .agg #[.int .i64 t, .slice (some ⟨g, 0, none⟩) n c4]) ?_ rfl ⟨g, c4, rfl, own_.own_base HO9.out (Nat.le_of_lt (Nat.lt_of_le_of_lt (Nat.le_succ _) LB.out)), HE.out.1⟩
  rw [results_cell1 rfl]
  simp [asAddr, Result.andThen, hl]
theorem putO {T : TypeId} {cs : Array Value} {w W : World} {b g i : Nat} (h : AtS T cs w W b) (h1 : w.heap.size ≤ g) (h2 : b ≠ g) (x0 x1 x2 x3 x4 x5 x6 x7 x8 x9 : Value) : AtS T cs w ((((((((((W.setCell ⟨g, i, none⟩ x0).setCell ⟨g, i + 1, none⟩ x1).setCell ⟨g, i + 2, none⟩ x2).setCell ⟨g, i + 3, none⟩ x3).setCell ⟨g, i + 4, none⟩ x4).setCell ⟨g, i + 5, none⟩ x5).setCell ⟨g, i + 6, none⟩ x6).setCell ⟨g, i + 7, none⟩ x7).setCell ⟨g, i + 8, none⟩ x8).setCell ⟨g, i + 9, none⟩ x9) b := ((((((((((h.other h1 h2 (i) x0).other h1 h2 (i + 1) x1).other h1 h2 (i + 2) x2).other h1 h2 (i + 3) x3).other h1 h2 (i + 4) x4).other h1 h2 (i + 5) x5).other h1 h2 (i + 6) x6).other h1 h2 (i + 7) x7).other h1 h2 (i + 8) x8).other h1 h2 (i + 9) x9)

/-- The list with a place for the aircraft. -/
def L0 (hs : List Hd) (A : Int) : List Hd := if known hs A then hs else hs.take (lead hs A) ++ [fresh A] ++ hs.drop (lead hs A)
theorem L0_lt (hs : List Hd) (A : Int) : lead hs A < (L0 hs A).length := by
  have := lead_le hs A
  unfold L0
  split
  · rename_i h; exact (known_iff.1 h).1
  · simp; omega
theorem L0_le (hs : List Hd) (A : Int) : (L0 hs A).length ≤ hs.length + 1 := by
  have := lead_le hs A
  unfold L0
  split
  · omega
  · simp; omega
theorem L0_at (hs : List Hd) (A : Int) : hx (L0 hs A) (lead hs A) = if known hs A then hx hs (lead hs A) else fresh A := by
  have := lead_le hs A
  unfold L0
  split
  · rfl
  · refine hx_of ?_
    have hl : (hs.take (lead hs A)).length = lead hs A := by rw [List.length_take]; omega
    rw [List.getElem?_append_left (by simp; omega), List.getElem?_append_right (by omega), hl, Nat.sub_self]
    rfl
theorem L0_set (hs : List Hd) (K A D t : Int) : (L0 hs A).set (lead hs A) (withF (hx (L0 hs A) (lead hs A)) K D t) = rL hs K A D t := by
  rw [L0_at]
  have := lead_le hs A
  unfold L0 rL
  split
  · rename_i h
    have hk := (known_iff.1 h).1
    rw [List.set_eq_take_append_cons_drop, if_pos hk]
    simp
  · have hl : (hs.take (lead hs A)).length = lead hs A := by rw [List.length_take]; omega
    rw [List.append_assoc, List.set_append, if_neg (by omega), hl, Nat.sub_self]
    simp
theorem L0_fr {m : Int} {hs : List Hd} (A : Int) (hv : vB m hs = true) : 0 ≤ (hx (L0 hs A) (lead hs A)).fr ∧ (hx (L0 hs A) (lead hs A)).fr ≤ 9999 := by
  rw [L0_at]
  split
  · rename_i h
    have := (one_parts (v_one hv (known_iff.1 h).1)).2.1
    omega
  · simp [fresh]

/-- What stands behind the look for a place. -/
def Placed (K A D t : Int) (L : List Hd) (q : Nat) (w wz : World) : Prop := ∃ g2 c2, AtS 71 #[.int .i64 t, .slice (some ⟨g2, 0, none⟩) L.length c2] w wz q ∧ wz.ownsRow (w.heap.size + 1 + 1 + 1) 137 10 (.slice (some ⟨g2, 0, none⟩) L.length c2) L.length (rows L) ∧ AtS 155 #[.int .i64 K, .int .i64 A, .int .i64 D] w wz (w.heap.size + 1) ∧ AtS 71 #[.int .i64 0, .slice none 0 0] w wz (w.heap.size + 1 + 1) ∧ g2 ≠ q

theorem srcT {w V : World} {B e n c g k : Nat} {hs : List Hd} (h : w.ownsRow B e 10 (.slice (some ⟨g, 0, none⟩) n c) n (rows hs)) (hV : Below w.heap.size w V) :
    ∀ W, Below V.heap.size V W → ∀ j u, (rows (hs.take k))[j]? = some u → W.cell? ((⟨g, 0, none⟩ : Addr).add j) = some u := by
  intro W hb j u hu
  have hg := own_row_lt h g rfl
  have hn := own_lenH h
  rw [← rows_take, List.getElem?_take] at hu
  split at hu
  · have hj : j < n * 10 := by have := (List.getElem?_eq_some_iff.1 hu).1; rw [rows_length] at this; omega
    rw [Addr.add_lit, Nat.zero_add, hb.cell (p := ⟨g, j, none⟩) (Nat.lt_of_lt_of_le hg hV.size), hV.cell (p := ⟨g, j, none⟩) hg]
    exact (h.cellAt j hj).trans hu
  · cases hu
theorem srcD {w V : World} {B e n c g k : Nat} {hs : List Hd} (h : w.ownsRow B e 10 (.slice (some ⟨g, 0, none⟩) n c) n (rows hs)) (hV : Below w.heap.size w V) (hk : k ≤ hs.length) (a : Addr) (ha : k < hs.length → a = ⟨g, k * 10, none⟩) :
    ∀ W, Below V.heap.size V W → ∀ j u, (rows (hs.drop k))[j]? = some u → W.cell? (a.add j) = some u := by
  intro W hb j u hu
  have hg := own_row_lt h g rfl
  have hn := own_lenH h
  have hj : j < (hs.length - k) * 10 := by have := (List.getElem?_eq_some_iff.1 hu).1; rw [rows_length, List.length_drop] at this; exact this
  rw [ha (by omega)]
  have e1 : rows hs = rows (hs.take k) ++ rows (hs.drop k) := by rw [← rows_append, List.take_append_drop]
  have e2 : (rows (hs.take k)).length = k * 10 := by rw [rows_length, List.length_take]; omega
  have e3 : (rows hs)[k * 10 + j]? = some u := by rw [e1, List.getElem?_append_right (by omega), e2, Nat.add_sub_cancel_left]; exact hu
  rw [Addr.add_lit, hb.cell (p := ⟨g, k * 10 + j, none⟩) (Nat.lt_of_lt_of_le hg hV.size), hV.cell (p := ⟨g, k * 10 + j, none⟩) hg]
  exact (h.cellAt (k * 10 + j) (by omega)).trans e3

theorem own_cap {w : World} {B e s n g c : Nat} {xs : List Value} (h : w.ownsRow B e s (.slice (some ⟨g, 0, none⟩) n c) n xs) : n ≤ c := by
  obtain ⟨fl, hh⟩ := World.ownsRowF_of h
  rcases hh with ⟨e1, _⟩ | ⟨g', cap, cur, fz, e1, _, _, _, hle, _⟩
  · cases e1
  · injection e1 with _ _ e3; omega
theorem own_pos {w : World} {B e s n : Nat} {v : Value} {xs : List Value} (h : w.ownsRow B e s v n xs) (hn : 0 < n) : ∃ g c, v = .slice (some ⟨g, 0, none⟩) n c ∧ B ≤ g := by
  obtain ⟨g, c, e⟩ := own_some h (fun e => by rcases h.2 with ⟨_, e2⟩ | ⟨g, cap, cur, e2, _⟩ <;> first | omega | (rw [e] at e2; cases e2))
  exact ⟨g, c, e, own_.row_ge h g (by rw [e]; rfl)⟩
theorem stepZ {W w w' : World} {B e s n : Nat} {v : Value} {xs : List Value} (h : Below B W w) (hB : B ≤ w.heap.size) (hown : w.ownsRow B e s v n xs) (hg : w.grownBy w' v.ownBlock) : Below B W w' := h.grown hg hB (own_.row_ge hown)
theorem own_away {W : World} {B e s n b g c : Nat} {xs : List Value} (h : W.ownsRow B e s (.slice (some ⟨g, 0, none⟩) n c) n xs) (hne : g ≠ b) (i : Nat) (u : Value) : (W.setCell ⟨b, i, none⟩ u).ownsRow B e s (.slice (some ⟨g, 0, none⟩) n c) n xs :=
  own_kept_at h (grown_set (grown_refl _ (some b)) i u) (fun g' e1 e2 => by
    have e1 : some g = some g' := e1
    injection e1 with e1
    injection e2 with e2
    omega)
theorem newsZ {W w1 : World} {b : Nat} {xs : List Value} {r : Option Nat} (hg : W.grownBy w1 r) (hc : ∀ j u, xs[j]? = some u → W.cell? ((⟨b, 0, none⟩ : Addr).add j) = some u) (hr : some b ≠ r) : ∀ j u, xs[j]? = some u → w1.cell? ((⟨b, 0, none⟩ : Addr).add j) = some u := by
  intro j u hu
  have h := hc j u hu
  rw [Addr.add_lit] at h ⊢
  rw [hg.cell_far _ (World.block_lt_of_cell? _ _ h) hr, h]

set_option maxRecDepth 100000 in
set_option maxHeartbeats 8000000 in
theorem receive9 (m : Int) (hs : List Hd) (K A D t : Int) (b o c : Nat) (w : World) (hv : vB m hs = true) (h : RdH w w.heap.size (some ⟨b, o, none⟩) hs) :
    Calls Try.prog 136 #[.agg #[.int .i64 m, .slice (some ⟨b, o, none⟩) hs.length c], .agg #[.int .i64 K, .int .i64 A, .int .i64 D], .int .i64 t] w
      fun e w' => ∃ v, e = .returned (.tuple #[.agg #[.int .i64 (if vB t (rL hs K A D t) then t else 0), v], .bool (vB t (rL hs K A D t))]) ∧ w'.ownsRow w.heap.size 137 10 v (if vB t (rL hs K A D t) then rL hs K A D t else []).length (rows (if vB t (rL hs K A D t) then rL hs K A D t else [])) ∧ Below w.heap.size w w' := by
  have H6 := (v_parts hv).2.1
  have B0 := Lib.hid (((newS 71 #[.int .i64 m, .slice (some ⟨b, o, none⟩) hs.length c] w).alloc (.cells #[.int .i64 K, .int .i64 A, .int .i64 D] 155)).alloc (.cells #[.int .i64 0, .slice none 0 0] 71))
  have F0 := Lib.hid (((newS 71 #[.int .i64 m, .slice (some ⟨b, o, none⟩) hs.length c] w).next 155 #[.int .i64 K, .int .i64 A, .int .i64 D]).alloc (.cells #[.int .i64 0, .slice none 0 0] 71))
  have R0 := Lib.hid (((newS 71 #[.int .i64 m, .slice (some ⟨b, o, none⟩) hs.length c] w).alloc (.cells #[.int .i64 K, .int .i64 A, .int .i64 D] 155)).next 71 #[.int .i64 0, .slice none 0 0])
  rw [World.size_alloc] at F0
  rw [World.size_alloc, World.size_alloc] at R0
  have OW := Lib.hid (fun W (hb : Below w.heap.size w W) => own9 m hs t b o c W (by omega) (h.next hb))
  have LT := Lib.hid (fun j (hj : j < lead hs A) => lead_lt hj)
  have LE := Lib.hid (fun (hj : lead hs A < hs.length) => lead_end hj)
  have LL := lead_le hs A
  have KN := Lib.hid (show known hs A = decide (lead hs A < hs.length ∧ (hx hs (lead hs A)).ad = A) from rfl)
  have ZK := Lib.hid (fun (e : known hs A = true) => show L0 hs A = hs by unfold L0; rw [if_pos e])
  have ZU := Lib.hid (fun (e : known hs A = false) => show L0 hs A = hs.take (lead hs A) ++ [fresh A] ++ hs.drop (lead hs A) by unfold L0; rw [if_neg (by rw [e]; simp)])
  have ZLT := Lib.hid (L0_lt hs A)
  have ZLE := Lib.hid (L0_le hs A)
  have ZFR := Lib.hid (L0_fr A hv)
  have ZST := Lib.hid (L0_set hs K A D t)
  have RLE := Lib.hid (rL_length hs K A D t)
  generalize hN : hs.length = n at *
  have HN := Lib.hid hN
  clear h hN hv
  go_enter Try.func136, Try.ntmps136
  go_wp2_with fail
  have W3 := Lib.hid (show w.heap.size + 1 + 1 + 1 = ((((w.alloc (.cells #[.int .i64 m, .slice (some ⟨b, o, none⟩) n c] 71)).alloc (.cells #[.int .i64 K, .int .i64 A, .int .i64 D] 155)).alloc (.cells #[.int .i64 0, .slice none 0 0] 71))).heap.size by rw [World.size_alloc, World.size_alloc, World.size_alloc])
  generalize ((w.alloc (.cells #[.int .i64 m, .slice (some ⟨b, o, none⟩) n c] 71)).alloc (.cells #[.int .i64 K, .int .i64 A, .int .i64 D] 155)).alloc (.cells #[.int .i64 0, .slice none 0 0] 71) = V0 at *
  refine (OW.out _ B0.out.1).mono ?_
  rintro e V1 ⟨g, c1, rfl, ho1, hb1⟩
  rw [← W3.out] at ho1
  have F1 := Lib.hid ((F0.out.old hb1).alloc (.cells #[.int .i64 t, .slice (some ⟨g, 0, none⟩) n c1] 71))
  have R1 := Lib.hid ((R0.out.old hb1).alloc (.cells #[.int .i64 t, .slice (some ⟨g, 0, none⟩) n c1] 71))
  have Q1 := Lib.hid ((F0.out.old hb1).next 71 #[.int .i64 t, .slice (some ⟨g, 0, none⟩) n c1])
  have HO1 := Lib.hid (own_.own_below ho1 ((Below.refl _ _).alloc (Nat.le_refl _) (.cells #[.int .i64 t, .slice (some ⟨g, 0, none⟩) n c1] 71)))
  have GQ := Lib.hid (show g < V1.heap.size from own_row_lt ho1 g rfl)
  have GB := Lib.hid (show w.heap.size + 1 + 1 + 1 ≤ g from own_.row_ge ho1 g rfl)
  clear B0 F0 R0 ho1 hb1 OW
  go_upto_region 2 with fail
  generalize V1.alloc (.cells #[.int .i64 t, .slice (some ⟨g, 0, none⟩) n c1] 71) = V at *
  generalize V1.heap.size = q at *
  have QB := Lib.hid (show w.heap.size + 1 + 1 + 1 ≤ q by have := GQ.out; have := GB.out; omega)
  have P0 := Lib.hid (show Placed K A D t hs q w V from ⟨g, c1, by rw [HN.out]; exact Q1.out, by rw [HN.out]; exact HO1.out, F1.out, R1.out, by have := GQ.out; omega⟩)
  clear F1 R1 Q1 HO1 GQ GB
  generalize hi0 : lead hs A = i at *
  clear hi0
  generalize V = V9 at *
  go_upto_block 0 with fail
  go_cut [9] from 17 to 34 (fun s wx => s = .int .i64 (i : Nat) ∧ Placed K A D t hs q w wx)
  case first =>
    go_wp2_with fail
    go_loopw [9] (fun s wr => ∃ k : Nat, k ≤ i ∧ s = .int .i64 (k : Nat) ∧ Placed K A D t hs q w wr) (fun s _ => i - (intOf s).toNat)
    case atStart => exact ⟨0, Nat.zero_le _, rfl, P0.out⟩
    case round =>
      obtain ⟨k, hk, rfl, g2, c2, hq, ho, hf, hr, hne⟩ := hrel
      have PL := Lib.hid (fun j => show Placed K A D t hs q w (wr.drewN j) from ⟨g2, c2, hq.drewN j, own_.own_drewN ho j, hf.drewN j, hr.drewN j, hne⟩)
      have q1 : wr.cell? ⟨q, 1, none⟩ = some (.slice (some ⟨g2, 0, none⟩) n c2) := by rw [← HN.out]; exact hq.cell 1
      have f1 : wr.cell? ⟨w.heap.size + 1, 1, none⟩ = some (.int .i64 A) := hf.cell 1
      have AD := Lib.hid (fun (hk : k < n) => (own_cells ho (by rw [HN.out]; exact hk)).1)
      clear hq ho hf hr hne P0
      by_cases hlt : k < n
      · have a1 := AD.out hlt
        have hltI : (k : Int) < (n : Int) := by omega
        have d1 : decide (k < n) = true := decide_eq_true hlt
        have d2 : decide ((k : Int) < (n : Int)) = true := decide_eq_true hltI
        by_cases hki : k < i
        · have z := LT.out k hki
          have d3 : decide ((hx hs k).ad < A) = true := decide_eq_true z
          generalize (hx hs k).ad = a at *
          go_upto_region 3 with fail
          go_quiet (fail)
          go_wp2_with fail
          go_round
          case rel => exact ⟨k + 1, by omega, by go_num, PL.out _⟩
          case measure => simp [intOf]; omega
        · have z := LE.out (by omega)
          obtain rfl : k = i := by omega
          have d3 : decide ((hx hs k).ad < A) = false := decide_eq_false (by omega)
          generalize (hx hs k).ad = a at *
          go_upto_region 3 with fail
          go_quiet (fail)
          go_wp2_with fail
          go_meet
          exact ⟨rfl, PL.out _⟩
      · have d1 : decide (k < n) = false := decide_eq_false hlt
        have d2 : decide ((k : Int) < (n : Int)) = false := decide_eq_false (by omega)
        obtain rfl : k = i := by omega
        go_upto_region 3 with fail
        go_quiet (fail)
        go_wp2_with fail
        go_meet
        exact ⟨rfl, PL.out _⟩
  case rest =>
    obtain ⟨rfl, hpl⟩ := hcut
    have P1 := Lib.hid hpl
    clear hpl P0 LT LE
    go_upto_region 5 with fail
    go_cut [50] from 35 to 50 (fun s wx => s = .bool (!known hs A) ∧ Placed K A D t hs q w wx)
    case first =>
      obtain ⟨g2, c2, hq, ho, hf, hr, hne⟩ := P1.out
      have PL := Lib.hid (fun j => show Placed K A D t hs q w (wc.drewN j) from ⟨g2, c2, hq.drewN j, own_.own_drewN ho j, hf.drewN j, hr.drewN j, hne⟩)
      have q1 : wc.cell? ⟨q, 1, none⟩ = some (.slice (some ⟨g2, 0, none⟩) n c2) := by rw [← HN.out]; exact hq.cell 1
      have f1 : wc.cell? ⟨w.heap.size + 1, 1, none⟩ = some (.int .i64 A) := hf.cell 1
      have AD := Lib.hid (fun (hk : i < n) => (own_cells ho (by rw [HN.out]; exact hk)).1)
      clear hq ho hf hr hne P1
      by_cases hlt : i < n
      · have a1 := AD.out hlt
        have hne : ((i : Int) == (n : Int)) = false := beq_eq_false_iff_ne.mpr (by omega)
        have hneN : (i == n) = false := beq_eq_false_iff_ne.mpr (by omega)
        have hd1 : decide ((i : Int) = (n : Int)) = false := decide_eq_false (by omega)
        have hd2 : decide (i = n) = false := decide_eq_false (by omega)
        have hltI : (i : Int) < (n : Int) := by omega
        by_cases hz : (hx hs i).ad = A
        · have KV : known hs A = true := by rw [KN]; exact decide_eq_true ⟨hlt, hz⟩
          have z1 : ((hx hs i).ad == A) = true := beq_iff_eq.mpr hz
          have z2 : decide ((hx hs i).ad = A) = true := decide_eq_true hz
          generalize (hx hs i).ad = a at *
          clear hz
          go_quiet (fail)
          go_wp2_with fail
          go_meet
          exact ⟨by rw [KV]; show Value.bool (!(a == A)) = _; rw [z1], PL.out _⟩
        · have KV : known hs A = false := by rw [KN]; exact decide_eq_false (fun e => hz e.2)
          have z1 : ((hx hs i).ad == A) = false := beq_eq_false_iff_ne.mpr hz
          have z2 : decide ((hx hs i).ad = A) = false := decide_eq_false hz
          generalize (hx hs i).ad = a at *
          clear hz
          go_quiet (fail)
          go_wp2_with fail
          go_meet
          exact ⟨by rw [KV]; show Value.bool (!(a == A)) = _; rw [z1], PL.out _⟩
      · have KV : known hs A = false := by rw [KN]; exact decide_eq_false (fun e => hlt e.1)
        have hne : ((i : Int) == (n : Int)) = true := beq_iff_eq.mpr (by omega)
        have hneN : (i == n) = true := beq_iff_eq.mpr (by omega)
        have hd1 : decide ((i : Int) = (n : Int)) = true := decide_eq_true (by omega)
        have hd2 : decide (i = n) = true := decide_eq_true (by omega)
        go_quiet (fail)
        go_wp2_with fail
        go_meet
        exact ⟨by rw [KV]; rfl, PL.out _⟩
    case rest =>
      obtain ⟨rfl, hpl⟩ := hcut
      have P2 := Lib.hid hpl
      clear hpl P1 KN
      go_upto_if 50 with fail
      go_cut [] from 10 to 68 (fun wz => Placed K A D t (L0 hs A) q w wz)
      case first =>
        cases hkn : known hs A
        · obtain ⟨g2, c2, hq, ho, hf, hr, hne⟩ := P2.out
          have HE := Lib.hid (ZU.out hkn)
          have f1 : wc.cell? ⟨w.heap.size + 1, 1, none⟩ = some (.int .i64 A) := hf.cell 1
          go_upto_region 7 with fail
          have hqs : q < wc.heap.size := World.block_lt_of_cell? _ _ (hq.cell 1)
          have BW := Lib.hid ((Below.refl wc.heap.size wc).alloc (Nat.le_refl _) (.cells #[.int .i64 A, .bool false, .int .i64 0, .int .i64 0, .int .i64 (-1), .bool false, .int .i64 0, .int .i64 0, .int .i64 (-1), .int .i64 0] 137))
          have P4 := Lib.hid (hq.alloc (.cells #[.int .i64 A, .bool false, .int .i64 0, .int .i64 0, .int .i64 (-1), .bool false, .int .i64 0, .int .i64 0, .int .i64 (-1), .int .i64 0] 137))
          have F4 := Lib.hid (hf.alloc (.cells #[.int .i64 A, .bool false, .int .i64 0, .int .i64 0, .int .i64 (-1), .bool false, .int .i64 0, .int .i64 0, .int .i64 (-1), .int .i64 0] 137))
          have R4 := Lib.hid (hr.alloc (.cells #[.int .i64 A, .bool false, .int .i64 0, .int .i64 0, .int .i64 (-1), .bool false, .int .i64 0, .int .i64 0, .int .i64 (-1), .int .i64 0] 137))
          have SRC1 := Lib.hid (srcT (k := i) ho BW.out)
          have SRC2 := Lib.hid (fun a ha => srcD (k := i) ho BW.out (by rw [HN.out]; exact LL) a ha)
          have GB := own_row_lt ho g2 rfl
          have nc := own_cap ho
          rw [HN.out] at P4 nc
          simp only [HN.out] at SRC2
          have CN := Lib.hid (show ∀ WZ, Below (wc.alloc (.cells #[.int .i64 A, .bool false, .int .i64 0, .int .i64 0, .int .i64 (-1), .bool false, .int .i64 0, .int .i64 0, .int .i64 (-1), .int .i64 0] 137)).heap.size (wc.alloc (.cells #[.int .i64 A, .bool false, .int .i64 0, .int .i64 0, .int .i64 (-1), .bool false, .int .i64 0, .int .i64 0, .int .i64 (-1), .int .i64 0] 137)) WZ → (World.cell? WZ ⟨wc.heap.size, 0, none⟩ = some (.int .i64 A) ∧ World.cell? WZ ⟨wc.heap.size, 1, none⟩ = some (.bool false) ∧ World.cell? WZ ⟨wc.heap.size, 2, none⟩ = some (.int .i64 0) ∧ World.cell? WZ ⟨wc.heap.size, 3, none⟩ = some (.int .i64 0) ∧ World.cell? WZ ⟨wc.heap.size, 4, none⟩ = some (.int .i64 (-1)) ∧ World.cell? WZ ⟨wc.heap.size, 5, none⟩ = some (.bool false) ∧ World.cell? WZ ⟨wc.heap.size, 6, none⟩ = some (.int .i64 0) ∧ World.cell? WZ ⟨wc.heap.size, 7, none⟩ = some (.int .i64 0) ∧ World.cell? WZ ⟨wc.heap.size, 8, none⟩ = some (.int .i64 (-1)) ∧ World.cell? WZ ⟨wc.heap.size, 9, none⟩ = some (.int .i64 0)) ∧ World.cell? WZ ⟨q, 1, none⟩ = some (.slice (some ⟨g2, 0, none⟩) n c2) from fun WZ hz => by
            have hH := cells_new wc 137 #[.int .i64 A, .bool false, .int .i64 0, .int .i64 0, .int .i64 (-1), .bool false, .int .i64 0, .int .i64 0, .int .i64 (-1), .int .i64 0]
            have hh : ∀ j u, ([.int .i64 A, .bool false, .int .i64 0, .int .i64 0, .int .i64 (-1), .bool false, .int .i64 0, .int .i64 0, .int .i64 (-1), .int .i64 0] : List Value)[j]? = some u → WZ.cell? ⟨wc.heap.size, j, none⟩ = some u := fun j u hu => by
              have := hH j u hu
              rw [Addr.add_lit, Nat.zero_add] at this
              exact (hz.cell (p := ⟨wc.heap.size, j, none⟩) (by rw [World.size_alloc]; exact Nat.lt_succ_self wc.heap.size)).trans this
            exact ⟨⟨hh 0 _ rfl, hh 1 _ rfl, hh 2 _ rfl, hh 3 _ rfl, hh 4 _ rfl, hh 5 _ rfl, hh 6 _ rfl, hh 7 _ rfl, hh 8 _ rfl, hh 9 _ rfl⟩, (hz.cell (p := ⟨q, 1, none⟩) (by show q < _; rw [World.size_alloc]; omega)).trans (P4.out.cell 1)⟩)
          have hps := Lib.hid (show (wc.alloc (.cells #[.int .i64 A, .bool false, .int .i64 0, .int .i64 0, .int .i64 (-1), .bool false, .int .i64 0, .int .i64 0, .int .i64 (-1), .int .i64 0] 137)).heap.size = wc.heap.size + 1 from World.size_alloc _ _)
          generalize wc.alloc (.cells #[.int .i64 A, .bool false, .int .i64 0, .int .i64 0, .int .i64 (-1), .bool false, .int .i64 0, .int .i64 0, .int .i64 (-1), .int .i64 0] 137) = V3 at *
          clear hq hf hr BW f1 ho
          obtain ⟨i0, hi, hz0, hz1, hz2⟩ := info_parts infoH
          have k0 : (0 : Int) ≤ (i : Int) := Int.natCast_nonneg _
          have k1 : (i : Int) ≤ (c2 : Int) := by omega
          have k2 : (i : Int) ≤ (n : Int) := by omega
          have k3 : (n : Int) ≤ (c2 : Int) := by omega
          have a0 := (CN.out V3 (Below.refl _ _)).2
          have a1 := (CN.out _ ((Below.refl V3.heap.size V3).alloc (Nat.le_refl _) (.cells #[] 137))).2
          have a2 := (CN.out _ ((Below.refl V3.heap.size V3).alloc (Nat.le_refl _) (.cells #[.int .i64 A, .bool false, .int .i64 0, .int .i64 0, .int .i64 (-1), .bool false, .int .i64 0, .int .i64 0, .int .i64 (-1), .int .i64 0] 137))).2
          have a3 := (CN.out _ (((Below.refl V3.heap.size V3).alloc (Nat.le_refl _) (.cells #[] 137)).alloc (by rw [World.size_alloc]; omega) (.cells #[.int .i64 A, .bool false, .int .i64 0, .int .i64 0, .int .i64 (-1), .bool false, .int .i64 0, .int .i64 0, .int .i64 (-1), .int .i64 0] 137))).2
          have a4 := (CN.out _ (((Below.refl V3.heap.size V3).alloc (Nat.le_refl _) (.cells #[.int .i64 A, .bool false, .int .i64 0, .int .i64 0, .int .i64 (-1), .bool false, .int .i64 0, .int .i64 0, .int .i64 (-1), .int .i64 0] 137)).alloc (by rw [World.size_alloc]; omega) (.cells #[] 137))).2
          have hl1 := Lib.hid (show (rows (hs.take i)).length = i * 10 by rw [rows_length, List.length_take, HN.out]; omega)
          have hl2 := Lib.hid (show (rows (hs.drop i)).length = (n - i) * 10 by rw [rows_length, List.length_drop, HN.out])
          have OE1 := Lib.hid (own_emptyZ V3 137 10)
          have OE2 := Lib.hid ((own_emptyZ V3 137 10).alloc (.cells #[.int .i64 A, .bool false, .int .i64 0, .int .i64 0, .int .i64 (-1), .bool false, .int .i64 0, .int .i64 0, .int .i64 (-1), .int .i64 0] 137))
          have OE3 := Lib.hid (by have h := own_emptyZ (V3.alloc (.cells #[.int .i64 A, .bool false, .int .i64 0, .int .i64 0, .int .i64 (-1), .bool false, .int .i64 0, .int .i64 0, .int .i64 (-1), .int .i64 0] 137)) 137 10; rw [World.size_alloc] at h; exact own_.own_base h (Nat.le_succ _))
          have QC := Lib.hid (fun W hz => (CN.out W hz).2)
          have HC := Lib.hid (fun W hz => (CN.out W hz).1)
          have BL0 := Lib.hid (Below.refl V3.heap.size V3).drew
          have BL1 := Lib.hid ((Below.refl V3.heap.size V3).alloc (Nat.le_refl _) (.cells #[] 137)).drew
          have BL2 := Lib.hid ((Below.refl V3.heap.size V3).alloc (Nat.le_refl _) (.cells #[.int .i64 A, .bool false, .int .i64 0, .int .i64 0, .int .i64 (-1), .bool false, .int .i64 0, .int .i64 0, .int .i64 (-1), .int .i64 0] 137)).drew
          have BL3 := Lib.hid (((Below.refl V3.heap.size V3).alloc (Nat.le_refl _) (.cells #[] 137)).alloc (by rw [World.size_alloc]; omega) (.cells #[.int .i64 A, .bool false, .int .i64 0, .int .i64 0, .int .i64 (-1), .bool false, .int .i64 0, .int .i64 0, .int .i64 (-1), .int .i64 0] 137)).drew
          have BL4 := Lib.hid (((Below.refl V3.heap.size V3).alloc (Nat.le_refl _) (.cells #[.int .i64 A, .bool false, .int .i64 0, .int .i64 0, .int .i64 (-1), .bool false, .int .i64 0, .int .i64 0, .int .i64 (-1), .int .i64 0] 137)).alloc (by rw [World.size_alloc]; omega) (.cells #[] 137)).drew
          have CA := Lib.hid (show ∀ j u, ([.int .i64 A, .bool false, .int .i64 0, .int .i64 0, .int .i64 (-1), .bool false, .int .i64 0, .int .i64 0, .int .i64 (-1), .int .i64 0] : List Value)[j]? = some u → ((V3.alloc (.cells #[] 137)).alloc (.cells #[.int .i64 A, .bool false, .int .i64 0, .int .i64 0, .int .i64 (-1), .bool false, .int .i64 0, .int .i64 0, .int .i64 (-1), .int .i64 0] 137)).drew.cell? ((⟨V3.heap.size + 1, 0, none⟩ : Addr).add j) = some u from fun j u hu => by
            have h := cells_new (V3.alloc (.cells #[] 137)) 137 #[.int .i64 A, .bool false, .int .i64 0, .int .i64 0, .int .i64 (-1), .bool false, .int .i64 0, .int .i64 0, .int .i64 (-1), .int .i64 0] j u hu
            rw [World.size_alloc] at h
            exact h)
          have CB := Lib.hid (show ∀ j u, ([.int .i64 A, .bool false, .int .i64 0, .int .i64 0, .int .i64 (-1), .bool false, .int .i64 0, .int .i64 0, .int .i64 (-1), .int .i64 0] : List Value)[j]? = some u → ((V3.alloc (.cells #[.int .i64 A, .bool false, .int .i64 0, .int .i64 0, .int .i64 (-1), .bool false, .int .i64 0, .int .i64 0, .int .i64 (-1), .int .i64 0] 137)).alloc (.cells #[] 137)).drew.cell? ((⟨V3.heap.size, 0, none⟩ : Addr).add j) = some u from fun j u hu => by
            have h := cells_new V3 137 #[.int .i64 A, .bool false, .int .i64 0, .int .i64 0, .int .i64 (-1), .bool false, .int .i64 0, .int .i64 0, .int .i64 (-1), .int .i64 0] j u hu
            rw [Addr.add_lit] at h ⊢
            exact (World.cell?_alloc_lt (V3.alloc (.cells #[.int .i64 A, .bool false, .int .i64 0, .int .i64 0, .int .i64 (-1), .bool false, .int .i64 0, .int .i64 0, .int .i64 (-1), .int .i64 0] 137)) (.cells #[] 137) ⟨V3.heap.size, 0 + j, none⟩ (by rw [World.size_alloc]; exact Nat.lt_succ_self _)).trans h)
          have CW := Lib.hid (fun W => cells_new W 137 #[.int .i64 A, .bool false, .int .i64 0, .int .i64 0, .int .i64 (-1), .bool false, .int .i64 0, .int .i64 0, .int .i64 (-1), .int .i64 0])
          have NQ := show q ≠ wc.heap.size by omega
          have HL := Lib.hid (show (L0 hs A).length = n + 1 by rw [HE.out]; simp only [List.length_append, List.length_take, List.length_drop, List.length_cons, List.length_nil, HN.out]; omega)
          have HR := Lib.hid (show rows (L0 hs A) = rows (hs.take i) ++ [.int .i64 A, .bool false, .int .i64 0, .int .i64 0, .int .i64 (-1), .bool false, .int .i64 0, .int .i64 0, .int .i64 (-1), .int .i64 0] ++ rows (hs.drop i) by rw [HE.out, rows_append, rows_append]; rfl)
          by_cases hck : c2 = i
          · have hni : n ≤ i := by omega
            have hck := hck.symm
            subst hck
            refine wp_region_tail (S := fun w' => (World.cell? w' ⟨wc.heap.size, 0, none⟩ = some (.int .i64 A) ∧ World.cell? w' ⟨wc.heap.size, 1, none⟩ = some (.bool false) ∧ World.cell? w' ⟨wc.heap.size, 2, none⟩ = some (.int .i64 0) ∧ World.cell? w' ⟨wc.heap.size, 3, none⟩ = some (.int .i64 0) ∧ World.cell? w' ⟨wc.heap.size, 4, none⟩ = some (.int .i64 (-1)) ∧ World.cell? w' ⟨wc.heap.size, 5, none⟩ = some (.bool false) ∧ World.cell? w' ⟨wc.heap.size, 6, none⟩ = some (.int .i64 0) ∧ World.cell? w' ⟨wc.heap.size, 7, none⟩ = some (.int .i64 0) ∧ World.cell? w' ⟨wc.heap.size, 8, none⟩ = some (.int .i64 (-1)) ∧ World.cell? w' ⟨wc.heap.size, 9, none⟩ = some (.int .i64 0)) ∧ World.cell? w' ⟨q, 1, none⟩ = some (.slice (some ⟨g2, 0, none⟩) n i)) 15 (by kernel_rfl) (CN.out _ BL0.out) (fun hHeld => ?_)
            refine wpAnyE_take (i := 1) (v := ?vz1) rfl (by decide +kernel) (fun _ _ _ h => h) (Or.inl ⟨by rfl, ?hz1⟩) (by assumption) ?rz1
            case hz1 =>
              intro wS hSw
              obtain ⟨⟨h0, h1, h2, h3, h4, h5, h6, h7, h8, h9⟩, hx⟩ := hSw
              go_simp
              try with_reducible rfl
            try simp only [Act.put]
            refine wpAnyE_take (i := 2) (v := ?vz2) rfl (by decide +kernel) (fun _ _ _ h => h) (Or.inl ⟨by rfl, ?hz2⟩) (by assumption) ?rz2
            case hz2 =>
              intro wS hSw
              obtain ⟨⟨h0, h1, h2, h3, h4, h5, h6, h7, h8, h9⟩, hx⟩ := hSw
              go_simp
              try with_reducible rfl
            try simp only [Act.put]
            refine wpAnyE_take (i := 3) (v := ?vz3) rfl (by decide +kernel) (fun _ _ _ h => h) (Or.inl ⟨by rfl, ?hz3⟩) (by assumption) ?rz3
            case hz3 =>
              intro wS hSw
              obtain ⟨⟨h0, h1, h2, h3, h4, h5, h6, h7, h8, h9⟩, hx⟩ := hSw
              go_simp
              try with_reducible rfl
            try simp only [Act.put]
            refine wpAnyE_take (i := 4) (v := ?vz4) rfl (by decide +kernel) (fun _ _ _ h => h) (Or.inl ⟨by rfl, ?hz4⟩) (by assumption) ?rz4
            case hz4 =>
              intro wS hSw
              obtain ⟨⟨h0, h1, h2, h3, h4, h5, h6, h7, h8, h9⟩, hx⟩ := hSw
              go_simp
              try with_reducible rfl
            try simp only [Act.put]
            refine wpAnyE_take (i := 6) (v := ?vz6) rfl (by decide +kernel) (fun _ _ _ h => h) (Or.inl ⟨by rfl, ?hz6⟩) (by assumption) ?rz6
            case hz6 =>
              intro wS hSw
              obtain ⟨⟨h0, h1, h2, h3, h4, h5, h6, h7, h8, h9⟩, hx⟩ := hSw
              go_simp
              try with_reducible rfl
            try simp only [Act.put]
            refine wpAnyE_take (i := 9) (v := ?vz9) rfl (by decide +kernel) (fun _ _ _ h => h) (Or.inl ⟨by rfl, ?hz9⟩) (by assumption) ?rz9
            case hz9 =>
              intro wS hSw
              obtain ⟨⟨h0, h1, h2, h3, h4, h5, h6, h7, h8, h9⟩, hx⟩ := hSw
              go_simp
              try with_reducible rfl
            try simp only [Act.put]
            refine wpAnyE_take (i := 10) (v := ?vz10) rfl (by decide +kernel) (fun _ _ _ h => h) (Or.inl ⟨by rfl, ?hz10⟩) (by assumption) ?rz10
            case hz10 =>
              intro wS hSw
              obtain ⟨⟨h0, h1, h2, h3, h4, h5, h6, h7, h8, h9⟩, hx⟩ := hSw
              go_simp
              try with_reducible rfl
            try simp only [Act.put]
            refine wpAnyE_take (i := 11) (v := ?vz11) rfl (by decide +kernel) (fun _ _ _ h => h) (Or.inl ⟨by rfl, ?hz11⟩) (by assumption) ?rz11
            case hz11 =>
              intro wS hSw
              obtain ⟨⟨h0, h1, h2, h3, h4, h5, h6, h7, h8, h9⟩, hx⟩ := hSw
              go_simp
              try with_reducible rfl
            try simp only [Act.put]
            refine wpAnyE_take (i := 12) (v := ?vz12) rfl (by decide +kernel) (fun _ _ _ h => h) (Or.inl ⟨by rfl, ?hz12⟩) (by assumption) ?rz12
            case hz12 =>
              intro wS hSw
              obtain ⟨⟨h0, h1, h2, h3, h4, h5, h6, h7, h8, h9⟩, hx⟩ := hSw
              go_simp
              try with_reducible rfl
            try simp only [Act.put]
            refine wpAnyE_ready (rs := [0, 7]) (by kernel_rfl) (by simp) ?_
            refine AllReadyE.cons (i := 0) rfl (by decide) (fun K hK => ?_) (AllReadyE.cons (i := 7) rfl (by decide) (fun K hK => ?_) AllReadyE.nil)
            · go_simp
              refine hK.out _ _ (CN.out _ BL1.out) (fun hHeld => ?_)
              clear hK K
              try simp only [Act.put]
              refine wpAnyE_ready (rs := [5, 7]) (by kernel_rfl) (by simp) ?_
              refine AllReadyE.cons (i := 5) rfl (by decide) (fun K hK => ?_) (AllReadyE.cons (i := 7) rfl (by decide) (fun K hK => ?_) AllReadyE.nil)
              · refine step_append_sz rfl (.tmp 54) (.tmp 58) 69 rfl V3.heap.size 137 i0 (hv zero) 10 80 Try.underlying69 hi hz0 hz1 hz2 rfl (by decide) (.slice (some ⟨V3.heap.size, 0, none⟩) 0 0) 0 [] rfl (own_.own_drewN OE1.out 1) _ i _ (rows (hs.take i)) rfl hl1.out (SRC1.out _ BL1.out) (rows_one_cell _) (by unfold maxLen; omega) (by omega) BL1.out.size ?_
                intro v1 w1 o1 g1 r1
                rw [Nat.zero_add, List.nil_append] at o1
                have hB1 : Below V3.heap.size V3 w1 := BL1.out.grown g1 BL1.out.size (own_.row_ge OE1.out)
                refine hK.out _ _ (CN.out _ hB1) (fun hHeld => ?_)
                clear hK K
                try simp only [Act.put]
                refine wpAnyE_ready (rs := [7]) (by kernel_rfl) (by simp) ?_
                refine AllReadyE.cons (i := 7) rfl (by decide) (fun K hK => ?_) AllReadyE.nil
                go_simp
                refine hK.out _ _ (CN.out _ (hB1.alloc hB1.size _)) (fun hHeld => ?_)
                clear hK K
                try simp only [Act.put]
                refine wpAnyE_ready (rs := [8]) (by kernel_rfl) (by simp) ?_
                refine AllReadyE.cons (i := 8) rfl (by decide) (fun K hK => ?_) AllReadyE.nil
                refine step_append_sz rfl (.tmp 59) (.tmp 61) 69 rfl V3.heap.size 137 i0 (hv zero) 10 80 Try.underlying69 hi hz0 hz1 hz2 rfl (by decide) _ i (rows (hs.take i)) rfl (o1.alloc (.cells #[.int .i64 A, .bool false, .int .i64 0, .int .i64 0, .int .i64 (-1), .bool false, .int .i64 0, .int .i64 0, .int .i64 (-1), .int .i64 0] 137)) _ 1 1 [.int .i64 A, .bool false, .int .i64 0, .int .i64 0, .int .i64 (-1), .bool false, .int .i64 0, .int .i64 0, .int .i64 (-1), .int .i64 0] rfl rfl (CW.out w1) (rows_one_cell [fresh A]) (by unfold maxLen; omega) (by omega) (hB1.alloc hB1.size _).size ?_
                intro v2 w2 o2 g2' r2
                have hB2 : Below V3.heap.size V3 w2 := (hB1.alloc hB1.size _).grown g2' (hB1.alloc hB1.size _).size (own_.row_ge (o1.alloc (.cells #[.int .i64 A, .bool false, .int .i64 0, .int .i64 0, .int .i64 (-1), .bool false, .int .i64 0, .int .i64 0, .int .i64 (-1), .int .i64 0] 137)))
                refine hK.out _ _ (CN.out _ hB2) (fun hHeld => ?_)
                clear hK K
                try simp only [Act.put]
                refine wpAnyE_ready (rs := [13]) (by kernel_rfl) (by simp) ?_
                refine AllReadyE.cons (i := 13) rfl (by decide) (fun K hK => ?_) AllReadyE.nil
                refine step_append_sz rfl (.tmp 62) (.tmp 66) 69 rfl V3.heap.size 137 i0 (hv zero) 10 80 Try.underlying69 hi hz0 hz1 hz2 rfl (by decide) _ (i + 1) _ rfl o2 _ 0 _ (rows (hs.drop i)) rfl (by rw [hl2.out]; omega) (SRC2.out _ (fun hin => absurd hin (by omega)) _ hB2) (rows_one_cell _) (by unfold maxLen; omega) (by omega) hB2.size ?_
                intro v3 w3 o3 g3' r3
                have hB3 : Below V3.heap.size V3 w3 := hB2.grown g3' hB2.size (own_.row_ge o2)
                rw [show i + 1 + 0 = n + 1 by omega] at o3
                obtain ⟨g3, c3, rfl, hg3⟩ := own_pos o3 (Nat.succ_pos n)
                have P5 := Lib.hid (P4.out.old hB3)
                have qd : w3.cell? ⟨q, 1, none⟩ = some (.slice (some ⟨g2, 0, none⟩) n i) := P5.out.cell 1
                have qe := P5.out.frozen 1
                have HO3 := Lib.hid o3
                have FB := Lib.hid hB3
                clear o3
                refine hK.out _ _ (CN.out _ FB.out) (fun hHeld => ?_)
                clear hK K
                try simp only [Act.put]
                refine wpAnyE_take (i := 14) (v := ?vz14a) rfl (by decide +kernel) (fun _ _ _ h => h) (Or.inl ⟨by rfl, ?hz14a⟩) (by assumption) ?rz14a
                case hz14a =>
                  intro wS hSw
                  obtain ⟨⟨h0, h1, h2, h3, h4, h5, h6, h7, h8, h9⟩, hx⟩ := hSw
                  go_simp
                  try with_reducible rfl
                try simp only [Act.put]
                refine wpAnyE_ready (rs := [15]) (by kernel_rfl) (by simp) ?_
                refine AllReadyE.last (i := 15) rfl rfl (fun K hK => ?_)
                go_simp
                refine hK.out _ _ ?_
                clear hK K
                try simp only [Act.put]
                refine wpAnyE_done (by kernel_rfl) ?_ _
                try simp only [List.getElem_toArray, List.getElem_cons_succ, List.getElem_cons_zero, List.setIfInBounds_toArray, List.set_cons_succ, List.set_cons_zero]
                go_wp2_with fail
                go_meet
                refine ⟨g3, c3, by rw [HL.out]; exact P5.out.set 1 _, ?_, (F4.out.old FB.out).other (by have := QB.out; omega) (by have := QB.out; omega) _ _, (R4.out.old FB.out).other (by have := QB.out; omega) (by have := QB.out; omega) _ _, by have := hg3; have := hps.out; omega⟩
                rw [HL.out, HR.out]
                exact own_.own_base (own_setbox HO3.out (by have := hps.out; omega) 1 _) (by have := QB.out; have := hps.out; omega)
              · go_simp
                refine hK.out _ _ (CN.out _ BL3.out) (fun hHeld => ?_)
                clear hK K
                try simp only [Act.put]
                refine wpAnyE_ready (rs := [5]) (by kernel_rfl) (by simp) ?_
                refine AllReadyE.cons (i := 5) rfl (by decide) (fun K hK => ?_) AllReadyE.nil
                refine step_append_sz rfl (.tmp 54) (.tmp 58) 69 rfl V3.heap.size 137 i0 (hv zero) 10 80 Try.underlying69 hi hz0 hz1 hz2 rfl (by decide) (.slice (some ⟨V3.heap.size, 0, none⟩) 0 0) 0 [] rfl (own_.own_drewN OE2.out 1) _ i _ (rows (hs.take i)) rfl hl1.out (SRC1.out _ BL3.out) (rows_one_cell _) (by unfold maxLen; omega) (by omega) BL3.out.size ?_
                intro v1 w1 o1 g1 r1
                rw [Nat.zero_add, List.nil_append] at o1
                have hB1 : Below V3.heap.size V3 w1 := BL3.out.grown g1 BL3.out.size (own_.row_ge OE2.out)
                refine hK.out _ _ (CN.out _ hB1) (fun hHeld => ?_)
                clear hK K
                try simp only [Act.put]
                refine wpAnyE_ready (rs := [8]) (by kernel_rfl) (by simp) ?_
                refine AllReadyE.cons (i := 8) rfl (by decide) (fun K hK => ?_) AllReadyE.nil
                refine step_append_sz rfl (.tmp 59) (.tmp 61) 69 rfl V3.heap.size 137 i0 (hv zero) 10 80 Try.underlying69 hi hz0 hz1 hz2 rfl (by decide) _ i (rows (hs.take i)) rfl o1 _ 1 1 [.int .i64 A, .bool false, .int .i64 0, .int .i64 0, .int .i64 (-1), .bool false, .int .i64 0, .int .i64 0, .int .i64 (-1), .int .i64 0] rfl rfl (newsZ g1 CA.out (show some (V3.heap.size + 1) ≠ some V3.heap.size by simp)) (rows_one_cell [fresh A]) (by unfold maxLen; omega) (by omega) hB1.size ?_
                intro v2 w2 o2 g2' r2
                have hB2 : Below V3.heap.size V3 w2 := hB1.grown g2' hB1.size (own_.row_ge o1)
                refine hK.out _ _ (CN.out _ hB2) (fun hHeld => ?_)
                clear hK K
                try simp only [Act.put]
                refine wpAnyE_ready (rs := [13]) (by kernel_rfl) (by simp) ?_
                refine AllReadyE.cons (i := 13) rfl (by decide) (fun K hK => ?_) AllReadyE.nil
                refine step_append_sz rfl (.tmp 62) (.tmp 66) 69 rfl V3.heap.size 137 i0 (hv zero) 10 80 Try.underlying69 hi hz0 hz1 hz2 rfl (by decide) _ (i + 1) _ rfl o2 _ 0 _ (rows (hs.drop i)) rfl (by rw [hl2.out]; omega) (SRC2.out _ (fun hin => absurd hin (by omega)) _ hB2) (rows_one_cell _) (by unfold maxLen; omega) (by omega) hB2.size ?_
                intro v3 w3 o3 g3' r3
                have hB3 : Below V3.heap.size V3 w3 := hB2.grown g3' hB2.size (own_.row_ge o2)
                rw [show i + 1 + 0 = n + 1 by omega] at o3
                obtain ⟨g3, c3, rfl, hg3⟩ := own_pos o3 (Nat.succ_pos n)
                have P5 := Lib.hid (P4.out.old hB3)
                have qd : w3.cell? ⟨q, 1, none⟩ = some (.slice (some ⟨g2, 0, none⟩) n i) := P5.out.cell 1
                have qe := P5.out.frozen 1
                have HO3 := Lib.hid o3
                have FB := Lib.hid hB3
                clear o3
                refine hK.out _ _ (CN.out _ FB.out) (fun hHeld => ?_)
                clear hK K
                try simp only [Act.put]
                refine wpAnyE_take (i := 14) (v := ?vz14b) rfl (by decide +kernel) (fun _ _ _ h => h) (Or.inl ⟨by rfl, ?hz14b⟩) (by assumption) ?rz14b
                case hz14b =>
                  intro wS hSw
                  obtain ⟨⟨h0, h1, h2, h3, h4, h5, h6, h7, h8, h9⟩, hx⟩ := hSw
                  go_simp
                  try with_reducible rfl
                try simp only [Act.put]
                refine wpAnyE_ready (rs := [15]) (by kernel_rfl) (by simp) ?_
                refine AllReadyE.last (i := 15) rfl rfl (fun K hK => ?_)
                go_simp
                refine hK.out _ _ ?_
                clear hK K
                try simp only [Act.put]
                refine wpAnyE_done (by kernel_rfl) ?_ _
                try simp only [List.getElem_toArray, List.getElem_cons_succ, List.getElem_cons_zero, List.setIfInBounds_toArray, List.set_cons_succ, List.set_cons_zero]
                go_wp2_with fail
                go_meet
                refine ⟨g3, c3, by rw [HL.out]; exact P5.out.set 1 _, ?_, (F4.out.old FB.out).other (by have := QB.out; omega) (by have := QB.out; omega) _ _, (R4.out.old FB.out).other (by have := QB.out; omega) (by have := QB.out; omega) _ _, by have := hg3; have := hps.out; omega⟩
                rw [HL.out, HR.out]
                exact own_.own_base (own_setbox HO3.out (by have := hps.out; omega) 1 _) (by have := QB.out; have := hps.out; omega)
            · go_simp
              refine hK.out _ _ (CN.out _ BL2.out) (fun hHeld => ?_)
              clear hK K
              try simp only [Act.put]
              refine wpAnyE_ready (rs := [0]) (by kernel_rfl) (by simp) ?_
              refine AllReadyE.cons (i := 0) rfl (by decide) (fun K hK => ?_) AllReadyE.nil
              go_simp
              refine hK.out _ _ (CN.out _ BL4.out) (fun hHeld => ?_)
              clear hK K
              try simp only [Act.put]
              refine wpAnyE_ready (rs := [5]) (by kernel_rfl) (by simp) ?_
              refine AllReadyE.cons (i := 5) rfl (by decide) (fun K hK => ?_) AllReadyE.nil
              refine step_append_sz rfl (.tmp 54) (.tmp 58) 69 rfl V3.heap.size 137 i0 (hv zero) 10 80 Try.underlying69 hi hz0 hz1 hz2 rfl (by decide) (.slice (some ⟨V3.heap.size + 1, 0, none⟩) 0 0) 0 [] rfl (own_.own_drewN OE3.out 1) _ i _ (rows (hs.take i)) rfl hl1.out (SRC1.out _ BL4.out) (rows_one_cell _) (by unfold maxLen; omega) (by omega) BL4.out.size ?_
              intro v1 w1 o1 g1 r1
              rw [Nat.zero_add, List.nil_append] at o1
              have hB1 : Below V3.heap.size V3 w1 := BL4.out.grown g1 BL4.out.size (own_.row_ge OE3.out)
              refine hK.out _ _ (CN.out _ hB1) (fun hHeld => ?_)
              clear hK K
              try simp only [Act.put]
              refine wpAnyE_ready (rs := [8]) (by kernel_rfl) (by simp) ?_
              refine AllReadyE.cons (i := 8) rfl (by decide) (fun K hK => ?_) AllReadyE.nil
              refine step_append_sz rfl (.tmp 59) (.tmp 61) 69 rfl V3.heap.size 137 i0 (hv zero) 10 80 Try.underlying69 hi hz0 hz1 hz2 rfl (by decide) _ i (rows (hs.take i)) rfl o1 _ 1 1 [.int .i64 A, .bool false, .int .i64 0, .int .i64 0, .int .i64 (-1), .bool false, .int .i64 0, .int .i64 0, .int .i64 (-1), .int .i64 0] rfl rfl (newsZ g1 CB.out (show some V3.heap.size ≠ some (V3.heap.size + 1) by simp)) (rows_one_cell [fresh A]) (by unfold maxLen; omega) (by omega) hB1.size ?_
              intro v2 w2 o2 g2' r2
              have hB2 : Below V3.heap.size V3 w2 := hB1.grown g2' hB1.size (own_.row_ge o1)
              refine hK.out _ _ (CN.out _ hB2) (fun hHeld => ?_)
              clear hK K
              try simp only [Act.put]
              refine wpAnyE_ready (rs := [13]) (by kernel_rfl) (by simp) ?_
              refine AllReadyE.cons (i := 13) rfl (by decide) (fun K hK => ?_) AllReadyE.nil
              refine step_append_sz rfl (.tmp 62) (.tmp 66) 69 rfl V3.heap.size 137 i0 (hv zero) 10 80 Try.underlying69 hi hz0 hz1 hz2 rfl (by decide) _ (i + 1) _ rfl o2 _ 0 _ (rows (hs.drop i)) rfl (by rw [hl2.out]; omega) (SRC2.out _ (fun hin => absurd hin (by omega)) _ hB2) (rows_one_cell _) (by unfold maxLen; omega) (by omega) hB2.size ?_
              intro v3 w3 o3 g3' r3
              have hB3 : Below V3.heap.size V3 w3 := hB2.grown g3' hB2.size (own_.row_ge o2)
              rw [show i + 1 + 0 = n + 1 by omega] at o3
              obtain ⟨g3, c3, rfl, hg3⟩ := own_pos o3 (Nat.succ_pos n)
              have P5 := Lib.hid (P4.out.old hB3)
              have qd : w3.cell? ⟨q, 1, none⟩ = some (.slice (some ⟨g2, 0, none⟩) n i) := P5.out.cell 1
              have qe := P5.out.frozen 1
              have HO3 := Lib.hid o3
              have FB := Lib.hid hB3
              clear o3
              refine hK.out _ _ (CN.out _ FB.out) (fun hHeld => ?_)
              clear hK K
              try simp only [Act.put]
              refine wpAnyE_take (i := 14) (v := ?vz14c) rfl (by decide +kernel) (fun _ _ _ h => h) (Or.inl ⟨by rfl, ?hz14c⟩) (by assumption) ?rz14c
              case hz14c =>
                intro wS hSw
                obtain ⟨⟨h0, h1, h2, h3, h4, h5, h6, h7, h8, h9⟩, hx⟩ := hSw
                go_simp
                try with_reducible rfl
              try simp only [Act.put]
              refine wpAnyE_ready (rs := [15]) (by kernel_rfl) (by simp) ?_
              refine AllReadyE.last (i := 15) rfl rfl (fun K hK => ?_)
              go_simp
              refine hK.out _ _ ?_
              clear hK K
              try simp only [Act.put]
              refine wpAnyE_done (by kernel_rfl) ?_ _
              try simp only [List.getElem_toArray, List.getElem_cons_succ, List.getElem_cons_zero, List.setIfInBounds_toArray, List.set_cons_succ, List.set_cons_zero]
              go_wp2_with fail
              go_meet
              refine ⟨g3, c3, by rw [HL.out]; exact P5.out.set 1 _, ?_, (F4.out.old FB.out).other (by have := QB.out; omega) (by have := QB.out; omega) _ _, (R4.out.old FB.out).other (by have := QB.out; omega) (by have := QB.out; omega) _ _, by have := hg3; have := hps.out; omega⟩
              rw [HL.out, HR.out]
              exact own_.own_base (own_setbox HO3.out (by have := hps.out; omega) 1 _) (by have := QB.out; have := hps.out; omega)
          · refine wp_region_tail (S := fun w' => (World.cell? w' ⟨wc.heap.size, 0, none⟩ = some (.int .i64 A) ∧ World.cell? w' ⟨wc.heap.size, 1, none⟩ = some (.bool false) ∧ World.cell? w' ⟨wc.heap.size, 2, none⟩ = some (.int .i64 0) ∧ World.cell? w' ⟨wc.heap.size, 3, none⟩ = some (.int .i64 0) ∧ World.cell? w' ⟨wc.heap.size, 4, none⟩ = some (.int .i64 (-1)) ∧ World.cell? w' ⟨wc.heap.size, 5, none⟩ = some (.bool false) ∧ World.cell? w' ⟨wc.heap.size, 6, none⟩ = some (.int .i64 0) ∧ World.cell? w' ⟨wc.heap.size, 7, none⟩ = some (.int .i64 0) ∧ World.cell? w' ⟨wc.heap.size, 8, none⟩ = some (.int .i64 (-1)) ∧ World.cell? w' ⟨wc.heap.size, 9, none⟩ = some (.int .i64 0)) ∧ World.cell? w' ⟨q, 1, none⟩ = some (.slice (some ⟨g2, 0, none⟩) n c2)) 15 (by kernel_rfl) (CN.out _ BL0.out) (fun hHeld => ?_)
            refine wpAnyE_take (i := 1) (v := ?vq1) rfl (by decide +kernel) (fun _ _ _ h => h) (Or.inl ⟨by rfl, ?hq1⟩) (by assumption) ?rq1
            case hq1 =>
              intro wS hSw
              obtain ⟨⟨h0, h1, h2, h3, h4, h5, h6, h7, h8, h9⟩, hx⟩ := hSw
              go_simp
              try with_reducible rfl
            try simp only [Act.put]
            refine wpAnyE_take (i := 2) (v := ?vq2) rfl (by decide +kernel) (fun _ _ _ h => h) (Or.inl ⟨by rfl, ?hq2⟩) (by assumption) ?rq2
            case hq2 =>
              intro wS hSw
              obtain ⟨⟨h0, h1, h2, h3, h4, h5, h6, h7, h8, h9⟩, hx⟩ := hSw
              go_simp
              try with_reducible rfl
            try simp only [Act.put]
            refine wpAnyE_take (i := 3) (v := ?vq3) rfl (by decide +kernel) (fun _ _ _ h => h) (Or.inl ⟨by rfl, ?hq3⟩) (by assumption) ?rq3
            case hq3 =>
              intro wS hSw
              obtain ⟨⟨h0, h1, h2, h3, h4, h5, h6, h7, h8, h9⟩, hx⟩ := hSw
              go_simp
              try with_reducible rfl
            try simp only [Act.put]
            refine wpAnyE_take (i := 4) (v := ?vq4) rfl (by decide +kernel) (fun _ _ _ h => h) (Or.inl ⟨by rfl, ?hq4⟩) (by assumption) ?rq4
            case hq4 =>
              intro wS hSw
              obtain ⟨⟨h0, h1, h2, h3, h4, h5, h6, h7, h8, h9⟩, hx⟩ := hSw
              go_simp
              try with_reducible rfl
            try simp only [Act.put]
            refine wpAnyE_take (i := 6) (v := ?vq6) rfl (by decide +kernel) (fun _ _ _ h => h) (Or.inl ⟨by rfl, ?hq6⟩) (by assumption) ?rq6
            case hq6 =>
              intro wS hSw
              obtain ⟨⟨h0, h1, h2, h3, h4, h5, h6, h7, h8, h9⟩, hx⟩ := hSw
              go_simp
              try with_reducible rfl
            try simp only [Act.put]
            refine wpAnyE_take (i := 9) (v := ?vq9) rfl (by decide +kernel) (fun _ _ _ h => h) (Or.inl ⟨by rfl, ?hq9⟩) (by assumption) ?rq9
            case hq9 =>
              intro wS hSw
              obtain ⟨⟨h0, h1, h2, h3, h4, h5, h6, h7, h8, h9⟩, hx⟩ := hSw
              go_simp
              try with_reducible rfl
            try simp only [Act.put]
            refine wpAnyE_take (i := 10) (v := ?vq10) rfl (by decide +kernel) (fun _ _ _ h => h) (Or.inl ⟨by rfl, ?hq10⟩) (by assumption) ?rq10
            case hq10 =>
              intro wS hSw
              obtain ⟨⟨h0, h1, h2, h3, h4, h5, h6, h7, h8, h9⟩, hx⟩ := hSw
              go_simp
              try with_reducible rfl
            try simp only [Act.put]
            refine wpAnyE_take (i := 11) (v := ?vq11) rfl (by decide +kernel) (fun _ _ _ h => h) (Or.inl ⟨by rfl, ?hq11⟩) (by assumption) ?rq11
            case hq11 =>
              intro wS hSw
              obtain ⟨⟨h0, h1, h2, h3, h4, h5, h6, h7, h8, h9⟩, hx⟩ := hSw
              go_simp
              try with_reducible rfl
            try simp only [Act.put]
            refine wpAnyE_take (i := 12) (v := ?vq12) rfl (by decide +kernel) (fun _ _ _ h => h) (Or.inl ⟨by rfl, ?hq12⟩) (by assumption) ?rq12
            case hq12 =>
              intro wS hSw
              obtain ⟨⟨h0, h1, h2, h3, h4, h5, h6, h7, h8, h9⟩, hx⟩ := hSw
              go_simp
              try with_reducible rfl
            try simp only [Act.put]
            refine wpAnyE_ready (rs := [0, 7]) (by kernel_rfl) (by simp) ?_
            refine AllReadyE.cons (i := 0) rfl (by decide) (fun K hK => ?_) (AllReadyE.cons (i := 7) rfl (by decide) (fun K hK => ?_) AllReadyE.nil)
            · go_simp
              refine hK.out _ _ (CN.out _ BL1.out) (fun hHeld => ?_)
              clear hK K
              try simp only [Act.put]
              refine wpAnyE_ready (rs := [5, 7]) (by kernel_rfl) (by simp) ?_
              refine AllReadyE.cons (i := 5) rfl (by decide) (fun K hK => ?_) (AllReadyE.cons (i := 7) rfl (by decide) (fun K hK => ?_) AllReadyE.nil)
              · refine step_append_sz rfl (.tmp 54) (.tmp 58) 69 rfl V3.heap.size 137 i0 (hv zero) 10 80 Try.underlying69 hi hz0 hz1 hz2 rfl (by decide) (.slice (some ⟨V3.heap.size, 0, none⟩) 0 0) 0 [] rfl (own_.own_drewN OE1.out 1) _ i _ (rows (hs.take i)) rfl hl1.out (SRC1.out _ BL1.out) (rows_one_cell _) (by unfold maxLen; omega) (by omega) BL1.out.size ?_
                intro v1 w1 o1 g1 r1
                rw [Nat.zero_add, List.nil_append] at o1
                have hB1 : Below V3.heap.size V3 w1 := BL1.out.grown g1 BL1.out.size (own_.row_ge OE1.out)
                refine hK.out _ _ (CN.out _ hB1) (fun hHeld => ?_)
                clear hK K
                try simp only [Act.put]
                refine wpAnyE_ready (rs := [7]) (by kernel_rfl) (by simp) ?_
                refine AllReadyE.cons (i := 7) rfl (by decide) (fun K hK => ?_) AllReadyE.nil
                go_simp
                refine hK.out _ _ (CN.out _ (hB1.alloc hB1.size _)) (fun hHeld => ?_)
                clear hK K
                try simp only [Act.put]
                refine wpAnyE_ready (rs := [8]) (by kernel_rfl) (by simp) ?_
                refine AllReadyE.cons (i := 8) rfl (by decide) (fun K hK => ?_) AllReadyE.nil
                refine step_append_sz rfl (.tmp 59) (.tmp 61) 69 rfl V3.heap.size 137 i0 (hv zero) 10 80 Try.underlying69 hi hz0 hz1 hz2 rfl (by decide) _ i (rows (hs.take i)) rfl (o1.alloc (.cells #[.int .i64 A, .bool false, .int .i64 0, .int .i64 0, .int .i64 (-1), .bool false, .int .i64 0, .int .i64 0, .int .i64 (-1), .int .i64 0] 137)) _ 1 1 [.int .i64 A, .bool false, .int .i64 0, .int .i64 0, .int .i64 (-1), .bool false, .int .i64 0, .int .i64 0, .int .i64 (-1), .int .i64 0] rfl rfl (CW.out w1) (rows_one_cell [fresh A]) (by unfold maxLen; omega) (by omega) (hB1.alloc hB1.size _).size ?_
                intro v2 w2 o2 g2' r2
                have hB2 : Below V3.heap.size V3 w2 := (hB1.alloc hB1.size _).grown g2' (hB1.alloc hB1.size _).size (own_.row_ge (o1.alloc (.cells #[.int .i64 A, .bool false, .int .i64 0, .int .i64 0, .int .i64 (-1), .bool false, .int .i64 0, .int .i64 0, .int .i64 (-1), .int .i64 0] 137)))
                refine hK.out _ _ (CN.out _ hB2) (fun hHeld => ?_)
                clear hK K
                try simp only [Act.put]
                refine wpAnyE_ready (rs := [13]) (by kernel_rfl) (by simp) ?_
                refine AllReadyE.cons (i := 13) rfl (by decide) (fun K hK => ?_) AllReadyE.nil
                refine step_append_sz rfl (.tmp 62) (.tmp 66) 69 rfl V3.heap.size 137 i0 (hv zero) 10 80 Try.underlying69 hi hz0 hz1 hz2 rfl (by decide) _ (i + 1) _ rfl o2 _ (n - i) _ (rows (hs.drop i)) rfl hl2.out (SRC2.out _ (fun hin => by simp) _ hB2) (rows_one_cell _) (by unfold maxLen; omega) (by omega) hB2.size ?_
                intro v3 w3 o3 g3' r3
                have hB3 : Below V3.heap.size V3 w3 := hB2.grown g3' hB2.size (own_.row_ge o2)
                rw [show i + 1 + (n - i) = n + 1 by omega] at o3
                obtain ⟨g3, c3, rfl, hg3⟩ := own_pos o3 (Nat.succ_pos n)
                have P5 := Lib.hid (P4.out.old hB3)
                have qd : w3.cell? ⟨q, 1, none⟩ = some (.slice (some ⟨g2, 0, none⟩) n c2) := P5.out.cell 1
                have qe := P5.out.frozen 1
                have HO3 := Lib.hid o3
                have FB := Lib.hid hB3
                clear o3
                refine hK.out _ _ (CN.out _ FB.out) (fun hHeld => ?_)
                clear hK K
                try simp only [Act.put]
                refine wpAnyE_take (i := 14) (v := ?vq14a) rfl (by decide +kernel) (fun _ _ _ h => h) (Or.inl ⟨by rfl, ?hq14a⟩) (by assumption) ?rq14a
                case hq14a =>
                  intro wS hSw
                  obtain ⟨⟨h0, h1, h2, h3, h4, h5, h6, h7, h8, h9⟩, hx⟩ := hSw
                  go_simp
                  try with_reducible rfl
                try simp only [Act.put]
                refine wpAnyE_ready (rs := [15]) (by kernel_rfl) (by simp) ?_
                refine AllReadyE.last (i := 15) rfl rfl (fun K hK => ?_)
                go_simp
                refine hK.out _ _ ?_
                clear hK K
                try simp only [Act.put]
                refine wpAnyE_done (by kernel_rfl) ?_ _
                try simp only [List.getElem_toArray, List.getElem_cons_succ, List.getElem_cons_zero, List.setIfInBounds_toArray, List.set_cons_succ, List.set_cons_zero]
                go_wp2_with fail
                go_meet
                refine ⟨g3, c3, by rw [HL.out]; exact P5.out.set 1 _, ?_, (F4.out.old FB.out).other (by have := QB.out; omega) (by have := QB.out; omega) _ _, (R4.out.old FB.out).other (by have := QB.out; omega) (by have := QB.out; omega) _ _, by have := hg3; have := hps.out; omega⟩
                rw [HL.out, HR.out]
                exact own_.own_base (own_setbox HO3.out (by have := hps.out; omega) 1 _) (by have := QB.out; have := hps.out; omega)
              · go_simp
                refine hK.out _ _ (CN.out _ BL3.out) (fun hHeld => ?_)
                clear hK K
                try simp only [Act.put]
                refine wpAnyE_ready (rs := [5]) (by kernel_rfl) (by simp) ?_
                refine AllReadyE.cons (i := 5) rfl (by decide) (fun K hK => ?_) AllReadyE.nil
                refine step_append_sz rfl (.tmp 54) (.tmp 58) 69 rfl V3.heap.size 137 i0 (hv zero) 10 80 Try.underlying69 hi hz0 hz1 hz2 rfl (by decide) (.slice (some ⟨V3.heap.size, 0, none⟩) 0 0) 0 [] rfl (own_.own_drewN OE2.out 1) _ i _ (rows (hs.take i)) rfl hl1.out (SRC1.out _ BL3.out) (rows_one_cell _) (by unfold maxLen; omega) (by omega) BL3.out.size ?_
                intro v1 w1 o1 g1 r1
                rw [Nat.zero_add, List.nil_append] at o1
                have hB1 : Below V3.heap.size V3 w1 := BL3.out.grown g1 BL3.out.size (own_.row_ge OE2.out)
                refine hK.out _ _ (CN.out _ hB1) (fun hHeld => ?_)
                clear hK K
                try simp only [Act.put]
                refine wpAnyE_ready (rs := [8]) (by kernel_rfl) (by simp) ?_
                refine AllReadyE.cons (i := 8) rfl (by decide) (fun K hK => ?_) AllReadyE.nil
                refine step_append_sz rfl (.tmp 59) (.tmp 61) 69 rfl V3.heap.size 137 i0 (hv zero) 10 80 Try.underlying69 hi hz0 hz1 hz2 rfl (by decide) _ i (rows (hs.take i)) rfl o1 _ 1 1 [.int .i64 A, .bool false, .int .i64 0, .int .i64 0, .int .i64 (-1), .bool false, .int .i64 0, .int .i64 0, .int .i64 (-1), .int .i64 0] rfl rfl (newsZ g1 CA.out (show some (V3.heap.size + 1) ≠ some V3.heap.size by simp)) (rows_one_cell [fresh A]) (by unfold maxLen; omega) (by omega) hB1.size ?_
                intro v2 w2 o2 g2' r2
                have hB2 : Below V3.heap.size V3 w2 := hB1.grown g2' hB1.size (own_.row_ge o1)
                refine hK.out _ _ (CN.out _ hB2) (fun hHeld => ?_)
                clear hK K
                try simp only [Act.put]
                refine wpAnyE_ready (rs := [13]) (by kernel_rfl) (by simp) ?_
                refine AllReadyE.cons (i := 13) rfl (by decide) (fun K hK => ?_) AllReadyE.nil
                refine step_append_sz rfl (.tmp 62) (.tmp 66) 69 rfl V3.heap.size 137 i0 (hv zero) 10 80 Try.underlying69 hi hz0 hz1 hz2 rfl (by decide) _ (i + 1) _ rfl o2 _ (n - i) _ (rows (hs.drop i)) rfl hl2.out (SRC2.out _ (fun hin => by simp) _ hB2) (rows_one_cell _) (by unfold maxLen; omega) (by omega) hB2.size ?_
                intro v3 w3 o3 g3' r3
                have hB3 : Below V3.heap.size V3 w3 := hB2.grown g3' hB2.size (own_.row_ge o2)
                rw [show i + 1 + (n - i) = n + 1 by omega] at o3
                obtain ⟨g3, c3, rfl, hg3⟩ := own_pos o3 (Nat.succ_pos n)
                have P5 := Lib.hid (P4.out.old hB3)
                have qd : w3.cell? ⟨q, 1, none⟩ = some (.slice (some ⟨g2, 0, none⟩) n c2) := P5.out.cell 1
                have qe := P5.out.frozen 1
                have HO3 := Lib.hid o3
                have FB := Lib.hid hB3
                clear o3
                refine hK.out _ _ (CN.out _ FB.out) (fun hHeld => ?_)
                clear hK K
                try simp only [Act.put]
                refine wpAnyE_take (i := 14) (v := ?vq14b) rfl (by decide +kernel) (fun _ _ _ h => h) (Or.inl ⟨by rfl, ?hq14b⟩) (by assumption) ?rq14b
                case hq14b =>
                  intro wS hSw
                  obtain ⟨⟨h0, h1, h2, h3, h4, h5, h6, h7, h8, h9⟩, hx⟩ := hSw
                  go_simp
                  try with_reducible rfl
                try simp only [Act.put]
                refine wpAnyE_ready (rs := [15]) (by kernel_rfl) (by simp) ?_
                refine AllReadyE.last (i := 15) rfl rfl (fun K hK => ?_)
                go_simp
                refine hK.out _ _ ?_
                clear hK K
                try simp only [Act.put]
                refine wpAnyE_done (by kernel_rfl) ?_ _
                try simp only [List.getElem_toArray, List.getElem_cons_succ, List.getElem_cons_zero, List.setIfInBounds_toArray, List.set_cons_succ, List.set_cons_zero]
                go_wp2_with fail
                go_meet
                refine ⟨g3, c3, by rw [HL.out]; exact P5.out.set 1 _, ?_, (F4.out.old FB.out).other (by have := QB.out; omega) (by have := QB.out; omega) _ _, (R4.out.old FB.out).other (by have := QB.out; omega) (by have := QB.out; omega) _ _, by have := hg3; have := hps.out; omega⟩
                rw [HL.out, HR.out]
                exact own_.own_base (own_setbox HO3.out (by have := hps.out; omega) 1 _) (by have := QB.out; have := hps.out; omega)
            · go_simp
              refine hK.out _ _ (CN.out _ BL2.out) (fun hHeld => ?_)
              clear hK K
              try simp only [Act.put]
              refine wpAnyE_ready (rs := [0]) (by kernel_rfl) (by simp) ?_
              refine AllReadyE.cons (i := 0) rfl (by decide) (fun K hK => ?_) AllReadyE.nil
              go_simp
              refine hK.out _ _ (CN.out _ BL4.out) (fun hHeld => ?_)
              clear hK K
              try simp only [Act.put]
              refine wpAnyE_ready (rs := [5]) (by kernel_rfl) (by simp) ?_
              refine AllReadyE.cons (i := 5) rfl (by decide) (fun K hK => ?_) AllReadyE.nil
              refine step_append_sz rfl (.tmp 54) (.tmp 58) 69 rfl V3.heap.size 137 i0 (hv zero) 10 80 Try.underlying69 hi hz0 hz1 hz2 rfl (by decide) (.slice (some ⟨V3.heap.size + 1, 0, none⟩) 0 0) 0 [] rfl (own_.own_drewN OE3.out 1) _ i _ (rows (hs.take i)) rfl hl1.out (SRC1.out _ BL4.out) (rows_one_cell _) (by unfold maxLen; omega) (by omega) BL4.out.size ?_
              intro v1 w1 o1 g1 r1
              rw [Nat.zero_add, List.nil_append] at o1
              have hB1 : Below V3.heap.size V3 w1 := BL4.out.grown g1 BL4.out.size (own_.row_ge OE3.out)
              refine hK.out _ _ (CN.out _ hB1) (fun hHeld => ?_)
              clear hK K
              try simp only [Act.put]
              refine wpAnyE_ready (rs := [8]) (by kernel_rfl) (by simp) ?_
              refine AllReadyE.cons (i := 8) rfl (by decide) (fun K hK => ?_) AllReadyE.nil
              refine step_append_sz rfl (.tmp 59) (.tmp 61) 69 rfl V3.heap.size 137 i0 (hv zero) 10 80 Try.underlying69 hi hz0 hz1 hz2 rfl (by decide) _ i (rows (hs.take i)) rfl o1 _ 1 1 [.int .i64 A, .bool false, .int .i64 0, .int .i64 0, .int .i64 (-1), .bool false, .int .i64 0, .int .i64 0, .int .i64 (-1), .int .i64 0] rfl rfl (newsZ g1 CB.out (show some V3.heap.size ≠ some (V3.heap.size + 1) by simp)) (rows_one_cell [fresh A]) (by unfold maxLen; omega) (by omega) hB1.size ?_
              intro v2 w2 o2 g2' r2
              have hB2 : Below V3.heap.size V3 w2 := hB1.grown g2' hB1.size (own_.row_ge o1)
              refine hK.out _ _ (CN.out _ hB2) (fun hHeld => ?_)
              clear hK K
              try simp only [Act.put]
              refine wpAnyE_ready (rs := [13]) (by kernel_rfl) (by simp) ?_
              refine AllReadyE.cons (i := 13) rfl (by decide) (fun K hK => ?_) AllReadyE.nil
              refine step_append_sz rfl (.tmp 62) (.tmp 66) 69 rfl V3.heap.size 137 i0 (hv zero) 10 80 Try.underlying69 hi hz0 hz1 hz2 rfl (by decide) _ (i + 1) _ rfl o2 _ (n - i) _ (rows (hs.drop i)) rfl hl2.out (SRC2.out _ (fun hin => by simp) _ hB2) (rows_one_cell _) (by unfold maxLen; omega) (by omega) hB2.size ?_
              intro v3 w3 o3 g3' r3
              have hB3 : Below V3.heap.size V3 w3 := hB2.grown g3' hB2.size (own_.row_ge o2)
              rw [show i + 1 + (n - i) = n + 1 by omega] at o3
              obtain ⟨g3, c3, rfl, hg3⟩ := own_pos o3 (Nat.succ_pos n)
              have P5 := Lib.hid (P4.out.old hB3)
              have qd : w3.cell? ⟨q, 1, none⟩ = some (.slice (some ⟨g2, 0, none⟩) n c2) := P5.out.cell 1
              have qe := P5.out.frozen 1
              have HO3 := Lib.hid o3
              have FB := Lib.hid hB3
              clear o3
              refine hK.out _ _ (CN.out _ FB.out) (fun hHeld => ?_)
              clear hK K
              try simp only [Act.put]
              refine wpAnyE_take (i := 14) (v := ?vq14c) rfl (by decide +kernel) (fun _ _ _ h => h) (Or.inl ⟨by rfl, ?hq14c⟩) (by assumption) ?rq14c
              case hq14c =>
                intro wS hSw
                obtain ⟨⟨h0, h1, h2, h3, h4, h5, h6, h7, h8, h9⟩, hx⟩ := hSw
                go_simp
                try with_reducible rfl
              try simp only [Act.put]
              refine wpAnyE_ready (rs := [15]) (by kernel_rfl) (by simp) ?_
              refine AllReadyE.last (i := 15) rfl rfl (fun K hK => ?_)
              go_simp
              refine hK.out _ _ ?_
              clear hK K
              try simp only [Act.put]
              refine wpAnyE_done (by kernel_rfl) ?_ _
              try simp only [List.getElem_toArray, List.getElem_cons_succ, List.getElem_cons_zero, List.setIfInBounds_toArray, List.set_cons_succ, List.set_cons_zero]
              go_wp2_with fail
              go_meet
              refine ⟨g3, c3, by rw [HL.out]; exact P5.out.set 1 _, ?_, (F4.out.old FB.out).other (by have := QB.out; omega) (by have := QB.out; omega) _ _, (R4.out.old FB.out).other (by have := QB.out; omega) (by have := QB.out; omega) _ _, by have := hg3; have := hps.out; omega⟩
              rw [HL.out, HR.out]
              exact own_.own_base (own_setbox HO3.out (by have := hps.out; omega) 1 _) (by have := QB.out; have := hps.out; omega)
        · have hL := ZK.out hkn
          go_wp2_with fail
          go_meet
          rw [hL]
          exact P2.out
      case rest =>
        obtain ⟨g2, c2, hq, ho, hf, hr, hne⟩ := hcut
        have hlt := ZLT.out
        have hle := ZLE.out
        obtain ⟨q0, q1⟩ := ZFR.out
        have YL := Lib.hid (own_cells ho hlt)
        have ST := Lib.hid ZST.out
        have NO := Lib.hid (fun e => wf_no (h := hx (L0 hs A) i) (K := K) (D := D) (t := t) e)
        have OD := Lib.hid (fun e q => wf_odd (h := hx (L0 hs A) i) (K := K) (D := D) (t := t) e q)
        have EV := Lib.hid (fun e q => wf_even (h := hx (L0 hs A) i) (K := K) (D := D) (t := t) e q)
        have UP := Lib.hid (fun w => post.unpack7 D w)
        clear ZST ZFR ZLT ZLE ZK ZU P2
        generalize L0 hs A = L at *
        have GB := Lib.hid (own_.row_ge ho g2 rfl)
        have GS := Lib.hid (own_row_lt ho g2 rfl)
        have QS := Lib.hid (show q < wc.heap.size from World.block_lt_of_cell? _ _ (hq.cell 1))
        generalize hx L i = x at *
        obtain ⟨y0, y1, y2, y3, y4, y5, y6, y7, y8, y9⟩ := YL.out
        have b1 : wc.cell? ⟨q, 1, none⟩ = some (.slice (some ⟨g2, 0, none⟩) L.length c2) := hq.cell 1
        have X1 := Lib.hid (hq.next 137 #[.int .i64 x.ad, .bool x.eo, .int .i64 x.ea, .int .i64 x.eb, .int .i64 x.et, .bool x.oo, .int .i64 x.oa, .int .i64 x.ob, .int .i64 x.ot, .int .i64 x.fr])
        have Q1 := Lib.hid (hq.alloc (.cells #[.int .i64 x.ad, .bool x.eo, .int .i64 x.ea, .int .i64 x.eb, .int .i64 x.et, .bool x.oo, .int .i64 x.oa, .int .i64 x.ob, .int .i64 x.ot, .int .i64 x.fr] 137))
        have F1 := Lib.hid (hf.alloc (.cells #[.int .i64 x.ad, .bool x.eo, .int .i64 x.ea, .int .i64 x.eb, .int .i64 x.et, .bool x.oo, .int .i64 x.oa, .int .i64 x.ob, .int .i64 x.ot, .int .i64 x.fr] 137))
        have R1 := Lib.hid (hr.alloc (.cells #[.int .i64 x.ad, .bool x.eo, .int .i64 x.ea, .int .i64 x.eb, .int .i64 x.et, .bool x.oo, .int .i64 x.oa, .int .i64 x.ob, .int .i64 x.ot, .int .i64 x.fr] 137))
        have O1 := Lib.hid (own_.own_below ho ((Below.refl _ _).alloc (Nat.le_refl _) (.cells #[.int .i64 x.ad, .bool x.eo, .int .i64 x.ea, .int .i64 x.eb, .int .i64 x.et, .bool x.oo, .int .i64 x.oa, .int .i64 x.ob, .int .i64 x.ot, .int .i64 x.fr] 137)))
        clear hq ho hf hr YL
        have hltI : (i : Int) < (L.length : Int) := by omega
        go_upto_region 9 with fail
        generalize wc.alloc (.cells #[.int .i64 x.ad, .bool x.eo, .int .i64 x.ea, .int .i64 x.eb, .int .i64 x.et, .bool x.oo, .int .i64 x.oa, .int .i64 x.ob, .int .i64 x.ot, .int .i64 x.fr] 137) = V1 at *
        generalize wc.heap.size = p at *
        have PW := Lib.hid (show w.heap.size ≤ p from X1.out.2.1)
        have PQ := Lib.hid (show q ≠ p by have := QS.out; omega)
        have PR := Lib.hid (show w.heap.size + 1 + 1 ≠ p by have := QS.out; have := QB.out; omega)
        have PF := Lib.hid (show w.heap.size + 1 ≠ p by have := QS.out; have := QB.out; omega)
        have PG := Lib.hid (show g2 ≠ p by have := GS.out; omega)
        clear y0 y1 y2 y3 y4 y5 y6 y7 y8 y9 b1
        have d9 : V1.cell? ⟨p, 9, none⟩ = some (.int .i64 x.fr) := X1.out.cell 9
        have f9 := X1.out.frozen 9
        have X2 := Lib.hid (at_s9 X1.out (.int .i64 (x.fr + 1)))
        have Q2 := Lib.hid (Q1.out.other (b' := p) PW.out PQ.out 9 (.int .i64 (x.fr + 1)))
        have F2 := Lib.hid (F1.out.other (b' := p) PW.out PF.out 9 (.int .i64 (x.fr + 1)))
        have R2 := Lib.hid (R1.out.other (b' := p) PW.out PR.out 9 (.int .i64 (x.fr + 1)))
        have O2 := Lib.hid (own_away O1.out PG.out 9 (.int .i64 (x.fr + 1)))
        clear X1 Q1 F1 R1 O1
        go_upto_region 10 with fail
        generalize V1.setCell ⟨p, 9, none⟩ (.int .i64 (x.fr + 1)) = V2 at *
        clear d9 f9
        generalize x.fr + 1 = fr1 at *
        clear q0 q1
        have c2' : V2.cell? ⟨w.heap.size + 1, 2, none⟩ = some (.int .i64 D) := F2.out.cell 2
        go_wp2_with fail
        refine (UP.out _).mono ?_
        rintro e V3 ⟨rfl, hb3⟩
        clear UP
        generalize ukO D = uo at *
        generalize ukA D = ua at *
        generalize ukV D = uv at *
        generalize ukB D = ub at *
        have X3 := Lib.hid ((X2.out.old hb3).alloc (.cells #[.bool uo, .int .i64 ua, .int .i64 uv] 135))
        have Q3 := Lib.hid ((Q2.out.old hb3).alloc (.cells #[.bool uo, .int .i64 ua, .int .i64 uv] 135))
        have F3 := Lib.hid ((F2.out.old hb3).alloc (.cells #[.bool uo, .int .i64 ua, .int .i64 uv] 135))
        have R3 := Lib.hid ((R2.out.old hb3).alloc (.cells #[.bool uo, .int .i64 ua, .int .i64 uv] 135))
        have U3 := Lib.hid ((Q2.out.old hb3).next 135 #[.bool uo, .int .i64 ua, .int .i64 uv])
        have O3 := Lib.hid (own_.own_below (own_.own_below O2.out hb3) ((Below.refl _ _).alloc (Nat.le_refl _) (.cells #[.bool uo, .int .i64 ua, .int .i64 uv] 135)))
        clear X2 Q2 F2 R2 O2 hb3 c2'
        go_upto_region 11 with fail
        generalize V3.alloc (.cells #[.bool uo, .int .i64 ua, .int .i64 uv] 135) = V4 at *
        generalize V3.heap.size = r at *
        have c0 : V4.cell? ⟨w.heap.size + 1, 0, none⟩ = some (.int .i64 K) := F3.out.cell 0
        go_cut [89] from 84 to 89 (fun s wx => (∃ bb, s = .bool bb ∧ bb = (ub && decide (K = 2))) ∧ AtS 137 #[.int .i64 x.ad, .bool x.eo, .int .i64 x.ea, .int .i64 x.eb, .int .i64 x.et, .bool x.oo, .int .i64 x.oa, .int .i64 x.ob, .int .i64 x.ot, .int .i64 fr1] w wx p ∧ AtS 71 #[.int .i64 t, .slice (some ⟨g2, 0, none⟩) L.length c2] w wx q ∧ wx.ownsRow (w.heap.size + 1 + 1 + 1) 137 10 (.slice (some ⟨g2, 0, none⟩) L.length c2) L.length (rows L) ∧ AtS 71 #[.int .i64 0, .slice none 0 0] w wx (w.heap.size + 1 + 1) ∧ AtS 135 #[.bool uo, .int .i64 ua, .int .i64 uv] w wx r)
        case first =>
          have PL := Lib.hid (show AtS 137 #[.int .i64 x.ad, .bool x.eo, .int .i64 x.ea, .int .i64 x.eb, .int .i64 x.et, .bool x.oo, .int .i64 x.oa, .int .i64 x.ob, .int .i64 x.ot, .int .i64 fr1] w V4 p ∧ AtS 71 #[.int .i64 t, .slice (some ⟨g2, 0, none⟩) L.length c2] w V4 q ∧ V4.ownsRow (w.heap.size + 1 + 1 + 1) 137 10 (.slice (some ⟨g2, 0, none⟩) L.length c2) L.length (rows L) ∧ AtS 71 #[.int .i64 0, .slice none 0 0] w V4 (w.heap.size + 1 + 1) ∧ AtS 135 #[.bool uo, .int .i64 ua, .int .i64 uv] w V4 r from ⟨X3.out, Q3.out, O3.out, R3.out, U3.out⟩)
          clear X3 Q3 O3 R3 U3 F3 NO OD EV
          by_cases hk : K = 2
          · have z1 : (K == 2) = true := beq_iff_eq.mpr hk
            have z2 : decide (K = 2) = true := decide_eq_true hk
            clear hk
            cases ub
            · go_wp2_with fail
              go_meet
              exact ⟨⟨_, rfl, rfl⟩, PL.out⟩
            · go_wp2_with fail
              go_meet
              exact ⟨⟨_, rfl, by first | rfl | (rw [z2]; first | rfl | (rw [z1]; rfl))⟩, PL.out⟩
          · have z1 : (K == 2) = false := beq_eq_false_iff_ne.mpr hk
            have z2 : decide (K = 2) = false := decide_eq_false hk
            clear hk
            cases ub
            · go_wp2_with fail
              go_meet
              exact ⟨⟨_, rfl, rfl⟩, PL.out⟩
            · go_wp2_with fail
              go_meet
              exact ⟨⟨_, rfl, by first | rfl | (rw [z2]; first | rfl | (rw [z1]; rfl))⟩, PL.out⟩
        case rest =>
          obtain ⟨⟨bb, rfl, hbb⟩, hx3, hq3, ho3, hr3, hu3⟩ := hcut
          clear X3 Q3 O3 R3 U3 F3 c0
          go_upto_if 89 with fail
          go_cut [] from 90 to 99 (fun wz => AtS 137 (#[.int .i64 (withF x K D t).ad, .bool (withF x K D t).eo, .int .i64 (withF x K D t).ea, .int .i64 (withF x K D t).eb, .int .i64 (withF x K D t).et, .bool (withF x K D t).oo, .int .i64 (withF x K D t).oa, .int .i64 (withF x K D t).ob, .int .i64 (withF x K D t).ot, .int .i64 (withF x K D t).fr]) w wz p ∧ AtS 71 #[.int .i64 t, .slice (some ⟨g2, 0, none⟩) L.length c2] w wz q ∧ wz.ownsRow (w.heap.size + 1 + 1 + 1) 137 10 (.slice (some ⟨g2, 0, none⟩) L.length c2) L.length (rows L) ∧ AtS 71 #[.int .i64 0, .slice none 0 0] w wz (w.heap.size + 1 + 1))
          case first =>
            cases bb
            · have HP := Lib.hid (NO.out (fun e => by rw [e.2, decide_eq_true e.1] at hbb; cases hbb))
              clear hbb
              go_wp2_with fail
              go_meet
              exact ⟨by rw [HP.out]; exact hx3, hq3, ho3, hr3⟩
            · have hk : K = 2 ∧ ub = true := by
                have e := hbb.symm
                rw [Bool.and_eq_true] at e
                exact ⟨of_decide_eq_true e.2, e.1⟩
              clear hbb
              cases uo
              · have HP := Lib.hid (EV.out hk rfl)
                have u0 : wc.cell? ⟨r, 0, none⟩ = some (.bool false) := hu3.cell 0
                have u1 : wc.cell? ⟨r, 1, none⟩ = some (.int .i64 ua) := hu3.cell 1
                have u2 : wc.cell? ⟨r, 2, none⟩ = some (.int .i64 uv) := hu3.cell 2
                obtain ⟨d0, d1, d2, d3, d4, d5, d6, d7, d8, d9⟩ := ten hx3
                obtain ⟨f0, f1, f2, f3, f4, f5, f6, f7, f8, f9⟩ := tenF hx3
                have X4 := Lib.hid (at_even hx3 (.bool false) (.int .i64 ua) (.int .i64 uv) (.int .i64 t))
                have Q4 := Lib.hid ((((hq3.other (b' := p) PW.out PQ.out 1 (.bool false)).other (b' := p) PW.out PQ.out 2 (.int .i64 ua)).other (b' := p) PW.out PQ.out 3 (.int .i64 uv)).other (b' := p) PW.out PQ.out 4 (.int .i64 t))
                have R4 := Lib.hid ((((hr3.other (b' := p) PW.out PR.out 1 (.bool false)).other (b' := p) PW.out PR.out 2 (.int .i64 ua)).other (b' := p) PW.out PR.out 3 (.int .i64 uv)).other (b' := p) PW.out PR.out 4 (.int .i64 t))
                have O4 := Lib.hid (own_away (own_away (own_away (own_away ho3 PG.out 1 (.bool false)) PG.out 2 (.int .i64 ua)) PG.out 3 (.int .i64 uv)) PG.out 4 (.int .i64 t))
                clear hx3 hq3 hr3 ho3 hu3 hk
                go_wp2_with fail
                go_meet
                exact ⟨by rw [HP.out]; exact X4.out, Q4.out, O4.out, R4.out⟩
              · have HP := Lib.hid (OD.out hk rfl)
                have u0 : wc.cell? ⟨r, 0, none⟩ = some (.bool true) := hu3.cell 0
                have u1 : wc.cell? ⟨r, 1, none⟩ = some (.int .i64 ua) := hu3.cell 1
                have u2 : wc.cell? ⟨r, 2, none⟩ = some (.int .i64 uv) := hu3.cell 2
                obtain ⟨d0, d1, d2, d3, d4, d5, d6, d7, d8, d9⟩ := ten hx3
                obtain ⟨f0, f1, f2, f3, f4, f5, f6, f7, f8, f9⟩ := tenF hx3
                have X4 := Lib.hid (at_odd hx3 (.bool true) (.int .i64 ua) (.int .i64 uv) (.int .i64 t))
                have Q4 := Lib.hid ((((hq3.other (b' := p) PW.out PQ.out 5 (.bool true)).other (b' := p) PW.out PQ.out 6 (.int .i64 ua)).other (b' := p) PW.out PQ.out 7 (.int .i64 uv)).other (b' := p) PW.out PQ.out 8 (.int .i64 t))
                have R4 := Lib.hid ((((hr3.other (b' := p) PW.out PR.out 5 (.bool true)).other (b' := p) PW.out PR.out 6 (.int .i64 ua)).other (b' := p) PW.out PR.out 7 (.int .i64 uv)).other (b' := p) PW.out PR.out 8 (.int .i64 t))
                have O4 := Lib.hid (own_away (own_away (own_away (own_away ho3 PG.out 5 (.bool true)) PG.out 6 (.int .i64 ua)) PG.out 7 (.int .i64 uv)) PG.out 8 (.int .i64 t))
                clear hx3 hq3 hr3 ho3 hu3 hk
                go_wp2_with fail
                go_meet
                exact ⟨by rw [HP.out]; exact X4.out, Q4.out, O4.out, R4.out⟩
          case rest =>
            obtain ⟨hx4, hq4, ho4, hr4⟩ := hcut
            clear hx3 hq3 ho3 hr3 hu3 NO OD EV
            have HM := Lib.hid ST.out
            clear ST
            generalize withF x K D t = z at *
            obtain ⟨d0, d1, d2, d3, d4, d5, d6, d7, d8, d9⟩ := ten hx4
            obtain ⟨y0, y1, y2, y3, y4, y5, y6, y7, y8, y9⟩ := own_cells ho4 hlt
            have b1 : wc.cell? ⟨q, 1, none⟩ = some (.slice (some ⟨g2, 0, none⟩) L.length c2) := hq4.cell 1
            have f0 := ho4.frozenAt (i * 10)
            have f1 := ho4.frozenAt (i * 10 + 1)
            have f2 := ho4.frozenAt (i * 10 + 2)
            have f3 := ho4.frozenAt (i * 10 + 3)
            have f4 := ho4.frozenAt (i * 10 + 4)
            have f5 := ho4.frozenAt (i * 10 + 5)
            have f6 := ho4.frozenAt (i * 10 + 6)
            have f7 := ho4.frozenAt (i * 10 + 7)
            have f8 := ho4.frozenAt (i * 10 + 8)
            have f9 := ho4.frozenAt (i * 10 + 9)
            have X5 := Lib.hid (own_put ho4 hlt z)
            have Q5 := Lib.hid (putO hq4 (i := i * 10) (show w.heap.size ≤ g2 by have := GB.out; omega) (show q ≠ g2 from fun e => hne e.symm) (.int .i64 z.ad) (.bool z.eo) (.int .i64 z.ea) (.int .i64 z.eb) (.int .i64 z.et) (.bool z.oo) (.int .i64 z.oa) (.int .i64 z.ob) (.int .i64 z.ot) (.int .i64 z.fr))
            have R5 := Lib.hid (putO hr4 (i := i * 10) (show w.heap.size ≤ g2 by have := GB.out; omega) (show w.heap.size + 1 + 1 ≠ g2 by have := GB.out; omega) (.int .i64 z.ad) (.bool z.eo) (.int .i64 z.ea) (.int .i64 z.eb) (.int .i64 z.et) (.bool z.oo) (.int .i64 z.oa) (.int .i64 z.ob) (.int .i64 z.ot) (.int .i64 z.fr))
            have LM := Lib.hid (show (rL hs K A D t).length = L.length by rw [← HM.out, List.length_set])
            rw [HM.out] at X5
            have VG := Lib.hid (fun W B' (h' : RdH W W.heap.size B' (rL hs K A D t)) => rcva.good9 t (rL hs K A D t) B' c2 W (by have := LM.out; omega) h')
            rw [LM.out] at VG
            generalize hln : L.length = ln at *
            clear hx4 hq4 ho4 hr4
            go_upto_region 18 with fail
            generalize ((((((((((wc.setCell ⟨g2, i * 10, none⟩ (.int .i64 z.ad)).setCell ⟨g2, i * 10 + 1, none⟩ (.bool z.eo)).setCell ⟨g2, i * 10 + 2, none⟩ (.int .i64 z.ea)).setCell ⟨g2, i * 10 + 3, none⟩ (.int .i64 z.eb)).setCell ⟨g2, i * 10 + 4, none⟩ (.int .i64 z.et)).setCell ⟨g2, i * 10 + 5, none⟩ (.bool z.oo)).setCell ⟨g2, i * 10 + 6, none⟩ (.int .i64 z.oa)).setCell ⟨g2, i * 10 + 7, none⟩ (.int .i64 z.ob)).setCell ⟨g2, i * 10 + 8, none⟩ (.int .i64 z.ot)).setCell ⟨g2, i * 10 + 9, none⟩ (.int .i64 z.fr)) = V5 at *
            have e0 : V5.cell? ⟨q, 0, none⟩ = some (.int .i64 t) := Q5.out.cell 0
            have e1 : V5.cell? ⟨q, 1, none⟩ = some (.slice (some ⟨g2, 0, none⟩) ln c2) := Q5.out.cell 1
            clear d0 d1 d2 d3 d4 d5 d6 d7 d8 d9 y0 y1 y2 y3 y4 y5 y6 y7 y8 y9 b1 f0 f1 f2 f3 f4 f5 f6 f7 f8 f9
            go_wp2_with fail
            refine (VG.out _ _ (RdH.of_own X5.out LM.out.symm)).mono ?_
            rintro e V6 ⟨rfl, hb6⟩
            have Q6 := Lib.hid (Q5.out.old hb6)
            have R6 := Lib.hid (R5.out.old hb6)
            have O6 := Lib.hid (own_.own_below X5.out hb6)
            clear Q5 R5 X5 hb6 VG e0 e1
            have r0 : V6.cell? ⟨w.heap.size + 1 + 1, 0, none⟩ = some (.int .i64 0) := R6.out.cell 0
            have r1 : V6.cell? ⟨w.heap.size + 1 + 1, 1, none⟩ = some (.slice none 0 0) := R6.out.cell 1
            have rf0 := R6.out.frozen 0
            have rf1 := R6.out.frozen 1
            cases hvv : vB t (rL hs K A D t)
            · have HE := Lib.hid ((R6.out.set 0 (.int .i64 0)).set 1 (.slice none 0 0))
              clear R6 Q6 O6
              go_wp2_with fail
              all_goals
                have hl := HE.out.load Try.underlying71 rfl (by kernel_rfl)
                refine bodyPost_ret (v := .tuple #[.agg #[.int .i64 0, .slice none 0 0], .bool false]) ?_ rfl ⟨_, rfl, own_nil _ _ _ _, HE.out.1⟩
                rw [results_ct rfl]
                simp [asAddr, Result.andThen, hl]
            · have q0 : V6.cell? ⟨q, 0, none⟩ = some (.int .i64 t) := Q6.out.cell 0
              have q1 : V6.cell? ⟨q, 1, none⟩ = some (.slice (some ⟨g2, 0, none⟩) ln c2) := Q6.out.cell 1
              have HE := Lib.hid ((R6.out.set 0 (.int .i64 t)).set 1 (.slice (some ⟨g2, 0, none⟩) ln c2))
              have O9 := Lib.hid (own_setbox (own_setbox O6.out (Nat.lt_succ_self _) 0 (.int .i64 t)) (Nat.lt_succ_self _) 1 (.slice (some ⟨g2, 0, none⟩) ln c2))
              clear R6 Q6 O6
              go_wp2_with fail
              have hl := HE.out.load Try.underlying71 rfl (by kernel_rfl)
              refine bodyPost_ret (v := .tuple #[.agg #[.int .i64 t, .slice (some ⟨g2, 0, none⟩) ln c2], .bool true]) ?_ rfl ⟨_, rfl, by show World.ownsRow _ _ _ _ _ (rL hs K A D t).length _; rw [LM.out]; exact own_.own_base O9.out (by omega), HE.out.1⟩
              rw [results_ct rfl]
              simp [asAddr, Result.andThen, hl]
end Go.Proofs.Ytdjcbfeilkepmaa.rcvr
