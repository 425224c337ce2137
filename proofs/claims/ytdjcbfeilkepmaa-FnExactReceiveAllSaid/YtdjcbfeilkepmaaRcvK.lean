/- impl's withFrame, listWithFrame, Receive. -/
import Derived.Test.YtdjcbfeilkepmaaRcvG
import Derived.Test.YtdjcbfeilkepmaaPosL
import Derived.Test.YtdjcbfeilkepmaaFrmK
import Derived.Laws.AppendOwn
import Derived.Laws.MakeOwn
namespace Go.Proofs.Ytdjcbfeilkepmaa.rcvk
open Go.RowKit Go.Proofs.Ytdjcbfeilkepmaa.pos Go.Proofs.Ytdjcbfeilkepmaa.in_ Go.Proofs.Ytdjcbfeilkepmaa.rcv Go.Proofs.Ytdjcbfeilkepmaa.rcvm Go.Proofs.Ytdjcbfeilkepmaa.ats Go.Proofs.Ytdjcbfeilkepmaa.lst Go.Proofs.Ytdjcbfeilkepmaa.rcvg

theorem own_nil (w : World) (B e s : Nat) : w.ownsRow B e s (.slice none 0 0) 0 [] := ⟨by simp, .inl ⟨rfl, rfl⟩⟩
theorem row_cell (z : Hd) : ∀ u ∈ row z, u.oneCell' = true := fun u hu => rows_one_cell [z] u (by rw [rows_one]; exact hu)
theorem RdH.news {w : World} {B b o : Nat} {hs : List Hd} (h : RdH w B (some ⟨b, o, none⟩) hs) : ∀ j u, (rows hs)[j]? = some u → w.cell? ((⟨b, o, none⟩ : Addr).add j) = some u := by
  intro j u hu
  rcases Nat.eq_zero_or_pos hs.length with h0 | h0
  · rw [List.eq_nil_of_length_eq_zero h0] at hu; cases hu
  · obtain ⟨b', o', e, _, hc⟩ := h.2 h0
    injection e with e
    injection e with e1 e2
    subst e1 e2
    rw [Addr.add_lit]
    exact hc j u hu
theorem rd_take {w : World} {B b o : Nat} {hs : List Hd} (h : RdH w B (some ⟨b, o, none⟩) hs) (i : Nat) : ∀ j u, (rows (hs.take i))[j]? = some u → w.cell? ((⟨b, o, none⟩ : Addr).add j) = some u := by
  intro j u hu
  rw [← rows_take, List.getElem?_take] at hu
  split at hu
  · exact RdH.news h j u hu
  · cases hu
theorem rd_drop {w : World} {B b o : Nat} {hs : List Hd} (h : RdH w B (some ⟨b, o, none⟩) hs) (i : Nat) : ∀ j u, (rows (hs.drop i))[j]? = some u → w.cell? ((⟨b, o + i * 10, none⟩ : Addr).add j) = some u := by
  intro j u hu
  rw [← rows_drop, List.getElem?_drop] at hu
  have := RdH.news h _ u hu
  rw [Addr.add_lit] at this ⊢
  rwa [Nat.add_assoc]

theorem rd_drop2 {b o : Nat} {hs : List Hd} (i c : Nat) (hc : hs.length ≤ c) : ∃ o', (if c = i then some (⟨b, o, none⟩ : Addr) else some ⟨b, o + i * 10, none⟩) = some ⟨b, o', none⟩ ∧
    ∀ w' : World, (∀ (j : Nat) (u : Value), (rows hs)[j]? = some u → w'.cell? ((⟨b, o, none⟩ : Addr).add j) = some u) → ∀ (j : Nat) (u : Value), (rows (hs.drop i))[j]? = some u → w'.cell? ((⟨b, o', none⟩ : Addr).add j) = some u := by
  by_cases e : c = i
  · refine ⟨o, if_pos e, fun w' _ j u hu => ?_⟩
    rw [List.drop_eq_nil_of_le (by omega)] at hu; simp [rows] at hu
  · refine ⟨o + i * 10, if_neg e, fun w' hn j u hu => ?_⟩
    rw [← rows_drop, List.getElem?_drop] at hu
    have := hn _ u hu
    rw [Addr.add_lit] at this ⊢
    rwa [Nat.add_assoc]
theorem at_grow {T : TypeId} {cs : Array Value} {w W W' : World} {B e s n b : Nat} {v : Value} {xs : List Value} (h : AtS T cs w W b) (hown : W.ownsRow B e s v n xs) (hlt : b < B) (hle : w.heap.size ≤ B) (hg : W.grownBy W' v.ownBlock) : AtS T cs w W' b :=
  ⟨h.1.grown hg h.1.size (fun g e => Nat.le_trans hle (own_.row_ge hown g e)), h.2.1, Nat.lt_of_lt_of_le h.2.2.1 hg.size, (hg.block _ h.2.2.1 (fun e => by have := own_.row_ge hown _ e.symm; omega)).trans h.2.2.2⟩
theorem below_grow {w W W' : World} {B e s n : Nat} {v : Value} {xs : List Value} (h : Below w.heap.size w W) (hown : W.ownsRow B e s v n xs) (hle : w.heap.size ≤ B) (hg : W.grownBy W' v.ownBlock) : Below w.heap.size w W' := h.grown hg h.size (fun g e => Nat.le_trans hle (own_.row_ge hown g e))
theorem wf_no {h : Hd} {K D t : Int} (e : ¬ (K = 2 ∧ ukB D = true)) : withF h K D t = ⟨h.ad, h.eo, h.ea, h.eb, h.et, h.oo, h.oa, h.ob, h.ot, h.fr + 1⟩ := by unfold withF; rw [if_neg e]
theorem wf_odd {h : Hd} {K D t : Int} (e : K = 2 ∧ ukB D = true) (q : ukO D = true) : withF h K D t = ⟨h.ad, h.eo, h.ea, h.eb, h.et, true, ukA D, ukV D, t, h.fr + 1⟩ := by unfold withF; rw [if_pos e, if_pos q, q]
theorem wf_even {h : Hd} {K D t : Int} (e : K = 2 ∧ ukB D = true) (q : ukO D = false) : withF h K D t = ⟨h.ad, false, ukA D, ukV D, t, h.oo, h.oa, h.ob, h.ot, h.fr + 1⟩ := by unfold withF; rw [if_pos e, if_neg (by rw [q]; simp), q]

set_option maxRecDepth 100000 in
set_option maxHeartbeats 8000000 in
theorem withFrame (h : Hd) (K A D t : Int) (hfr : 0 ≤ h.fr ∧ h.fr ≤ 9999) (w : World) :
    Calls Try.prog 174 #[.agg #[.int .i64 h.ad, .bool h.eo, .int .i64 h.ea, .int .i64 h.eb, .int .i64 h.et, .bool h.oo, .int .i64 h.oa, .int .i64 h.ob, .int .i64 h.ot, .int .i64 h.fr], .agg #[.int .i64 K, .int .i64 A, .int .i64 D], .int .i64 t] w fun e w' => e = .returned (.agg #[.int .i64 (withF h K D t).ad, .bool (withF h K D t).eo, .int .i64 (withF h K D t).ea, .int .i64 (withF h K D t).eb, .int .i64 (withF h K D t).et, .bool (withF h K D t).oo, .int .i64 (withF h K D t).oa, .int .i64 (withF h K D t).ob, .int .i64 (withF h K D t).ot, .int .i64 (withF h K D t).fr]) ∧ Below w.heap.size w w' := by
  have B0 := Lib.hid (((newS 137 #[.int .i64 h.ad, .bool h.eo, .int .i64 h.ea, .int .i64 h.eb, .int .i64 h.et, .bool h.oo, .int .i64 h.oa, .int .i64 h.ob, .int .i64 h.ot, .int .i64 h.fr] w).alloc (.cells #[.int .i64 K, .int .i64 A, .int .i64 D] 155)).alloc (.cells #[.int .i64 0, .bool false, .int .i64 0, .int .i64 0, .int .i64 0, .bool false, .int .i64 0, .int .i64 0, .int .i64 0, .int .i64 0] 137))
  have C0 := Lib.hid (((newS 137 #[.int .i64 h.ad, .bool h.eo, .int .i64 h.ea, .int .i64 h.eb, .int .i64 h.et, .bool h.oo, .int .i64 h.oa, .int .i64 h.ob, .int .i64 h.ot, .int .i64 h.fr] w).next 155 #[.int .i64 K, .int .i64 A, .int .i64 D]).alloc (.cells #[.int .i64 0, .bool false, .int .i64 0, .int .i64 0, .int .i64 0, .bool false, .int .i64 0, .int .i64 0, .int .i64 0, .int .i64 0] 137))
  have R0 := Lib.hid (((newS 137 #[.int .i64 h.ad, .bool h.eo, .int .i64 h.ea, .int .i64 h.eb, .int .i64 h.et, .bool h.oo, .int .i64 h.oa, .int .i64 h.ob, .int .i64 h.ot, .int .i64 h.fr] w).alloc (.cells #[.int .i64 K, .int .i64 A, .int .i64 D] 155)).next 137 #[.int .i64 0, .bool false, .int .i64 0, .int .i64 0, .int .i64 0, .bool false, .int .i64 0, .int .i64 0, .int .i64 0, .int .i64 0])
  rw [World.size_alloc] at C0
  rw [World.size_alloc, World.size_alloc] at R0
  have UP := Lib.hid (fun w => posl.unpackReport D w)
  have NO := Lib.hid (fun e => wf_no (h := h) (K := K) (D := D) (t := t) e)
  have OD := Lib.hid (fun e q => wf_odd (h := h) (K := K) (D := D) (t := t) e q)
  have EV := Lib.hid (fun e q => wf_even (h := h) (K := K) (D := D) (t := t) e q)
  have L1 := Lib.hid (show w.heap.size ≤ w.heap.size + 1 by omega)
  obtain ⟨q0, q1⟩ := hfr
  go_enter Try.func174, Try.ntmps174
  go_upto_region 1 with fail
  generalize ((w.alloc (.cells #[.int .i64 h.ad, .bool h.eo, .int .i64 h.ea, .int .i64 h.eb, .int .i64 h.et, .bool h.oo, .int .i64 h.oa, .int .i64 h.ob, .int .i64 h.ot, .int .i64 h.fr] 137)).alloc (.cells #[.int .i64 K, .int .i64 A, .int .i64 D] 155)).alloc (.cells #[.int .i64 0, .bool false, .int .i64 0, .int .i64 0, .int .i64 0, .bool false, .int .i64 0, .int .i64 0, .int .i64 0, .int .i64 0] 137) = V at *
  have d9 : V.cell? ⟨w.heap.size, 9, none⟩ = some (.int .i64 h.fr) := B0.out.cell 9
  have f9 := B0.out.frozen 9
  have B1 := Lib.hid (at_s9 B0.out (.int .i64 (h.fr + 1)))
  have C1 := Lib.hid (C0.out.other (b' := w.heap.size) (Nat.le_refl _) (by omega) 9 (.int .i64 (h.fr + 1)))
  have R1 := Lib.hid (R0.out.other (b' := w.heap.size) (Nat.le_refl _) (by omega) 9 (.int .i64 (h.fr + 1)))
  clear B0 C0 R0
  go_upto_region 2 with fail
  generalize V.setCell ⟨w.heap.size, 9, none⟩ (.int .i64 (h.fr + 1)) = V1 at *
  clear d9 f9
  generalize h.fr + 1 = fr1 at *
  clear q0 q1
  have c2 : V1.cell? ⟨w.heap.size + 1, 2, none⟩ = some (.int .i64 D) := C1.out.cell 2
  go_wp2_with fail
  refine (UP.out _).mono ?_
  rintro e V2 ⟨rfl, hb2⟩
  have B2 := Lib.hid ((B1.out.old hb2).alloc (.cells #[.bool (ukO D), .int .i64 (ukA D), .int .i64 (ukV D)] 135))
  have C2 := Lib.hid ((C1.out.old hb2).alloc (.cells #[.bool (ukO D), .int .i64 (ukA D), .int .i64 (ukV D)] 135))
  have R2 := Lib.hid ((R1.out.old hb2).alloc (.cells #[.bool (ukO D), .int .i64 (ukA D), .int .i64 (ukV D)] 135))
  have U2 := Lib.hid ((B1.out.old hb2).next 135 #[.bool (ukO D), .int .i64 (ukA D), .int .i64 (ukV D)])
  clear B1 C1 R1 hb2 c2 UP
  go_upto_region 3 with fail
  generalize V2.alloc (.cells #[.bool (ukO D), .int .i64 (ukA D), .int .i64 (ukV D)] 135) = V3 at *
  generalize V2.heap.size = g at *
  have c0 : V3.cell? ⟨w.heap.size + 1, 0, none⟩ = some (.int .i64 K) := C2.out.cell 0
  obtain ⟨r0, r1, r2, r3, r4, r5, r6, r7, r8, r9⟩ := ten R2.out
  obtain ⟨x0, x1, x2, x3, x4, x5, x6, x7, x8, x9⟩ := tenF R2.out
  by_cases hk : K = 2
  · subst hk
    cases hu : ukB D
    · have HP := Lib.hid (NO.out (by rintro ⟨_, e⟩; rw [hu] at e; cases e))
      clear NO OD EV hu
      obtain ⟨d0, d1, d2, d3, d4, d5, d6, d7, d8, d9⟩ := ten B2.out
      have HE := Lib.hid (at_all R2.out (.int .i64 h.ad) (.bool h.eo) (.int .i64 h.ea) (.int .i64 h.eb) (.int .i64 h.et) (.bool h.oo) (.int .i64 h.oa) (.int .i64 h.ob) (.int .i64 h.ot) (.int .i64 fr1))
      go_wp2_with fail
      have hl := HE.out.load Try.underlying137 rfl (by kernel_rfl)
      refine bodyPost_ret (v := .agg #[.int .i64 h.ad, .bool h.eo, .int .i64 h.ea, .int .i64 h.eb, .int .i64 h.et, .bool h.oo, .int .i64 h.oa, .int .i64 h.ob, .int .i64 h.ot, .int .i64 fr1]) ?_ rfl ⟨by rw [HP.out], HE.out.1⟩
      rw [results_cell1 rfl]
      simp [asAddr, Result.andThen, hl]
    · cases ho : ukO D
      · have HP := Lib.hid (EV.out ⟨rfl, hu⟩ ho)
        rw [ho] at U2
        clear NO OD EV hu ho
        generalize ukA D = ua at *
        generalize ukV D = uv at *
        have u0 : V3.cell? ⟨g, 0, none⟩ = some (.bool false) := U2.out.cell 0
        have u1 : V3.cell? ⟨g, 1, none⟩ = some (.int .i64 ua) := U2.out.cell 1
        have u2 : V3.cell? ⟨g, 2, none⟩ = some (.int .i64 uv) := U2.out.cell 2
        obtain ⟨d0, d1, d2, d3, d4, d5, d6, d7, d8, d9⟩ := ten B2.out
        obtain ⟨f0, f1, f2, f3, f4, f5, f6, f7, f8, f9⟩ := tenF B2.out
        have B4 := Lib.hid (at_even B2.out (.bool false) (.int .i64 ua) (.int .i64 uv) (.int .i64 t))
        have R4 := Lib.hid ((((R2.out.other (b' := w.heap.size) (Nat.le_refl _) (by omega) 1 (.bool false)).other (b' := w.heap.size) (Nat.le_refl _) (by omega) 2 (.int .i64 ua)).other (b' := w.heap.size) (Nat.le_refl _) (by omega) 3 (.int .i64 uv)).other (b' := w.heap.size) (Nat.le_refl _) (by omega) 4 (.int .i64 t))
        clear B2 R2 r0 r1 r2 r3 r4 r5 r6 r7 r8 r9 x0 x1 x2 x3 x4 x5 x6 x7 x8 x9 C2 U2
        go_upto_region 8 with fail
        generalize (((V3.setCell ⟨w.heap.size, 1, none⟩ (.bool false)).setCell ⟨w.heap.size, 2, none⟩ (.int .i64 ua)).setCell ⟨w.heap.size, 3, none⟩ (.int .i64 uv)).setCell ⟨w.heap.size, 4, none⟩ (.int .i64 t) = V4 at *
        clear d0 d1 d2 d3 d4 d5 d6 d7 d8 d9 f0 f1 f2 f3 f4 f5 f6 f7 f8 f9 u0 u1 u2 c0
        obtain ⟨d0, d1, d2, d3, d4, d5, d6, d7, d8, d9⟩ := ten B4.out
        obtain ⟨r0, r1, r2, r3, r4, r5, r6, r7, r8, r9⟩ := ten R4.out
        obtain ⟨x0, x1, x2, x3, x4, x5, x6, x7, x8, x9⟩ := tenF R4.out
        have HE := Lib.hid (at_all R4.out (.int .i64 h.ad) (.bool false) (.int .i64 ua) (.int .i64 uv) (.int .i64 t) (.bool h.oo) (.int .i64 h.oa) (.int .i64 h.ob) (.int .i64 h.ot) (.int .i64 fr1))
        go_wp2_with fail
        have hl := HE.out.load Try.underlying137 rfl (by kernel_rfl)
        refine bodyPost_ret (v := .agg #[.int .i64 h.ad, .bool false, .int .i64 ua, .int .i64 uv, .int .i64 t, .bool h.oo, .int .i64 h.oa, .int .i64 h.ob, .int .i64 h.ot, .int .i64 fr1]) ?_ rfl ⟨by rw [HP.out], HE.out.1⟩
        rw [results_cell1 rfl]
        simp [asAddr, Result.andThen, hl]
      · have HP := Lib.hid (OD.out ⟨rfl, hu⟩ ho)
        rw [ho] at U2
        clear NO OD EV hu ho
        generalize ukA D = ua at *
        generalize ukV D = uv at *
        have u0 : V3.cell? ⟨g, 0, none⟩ = some (.bool true) := U2.out.cell 0
        have u1 : V3.cell? ⟨g, 1, none⟩ = some (.int .i64 ua) := U2.out.cell 1
        have u2 : V3.cell? ⟨g, 2, none⟩ = some (.int .i64 uv) := U2.out.cell 2
        obtain ⟨d0, d1, d2, d3, d4, d5, d6, d7, d8, d9⟩ := ten B2.out
        obtain ⟨f0, f1, f2, f3, f4, f5, f6, f7, f8, f9⟩ := tenF B2.out
        have B4 := Lib.hid (at_odd B2.out (.bool true) (.int .i64 ua) (.int .i64 uv) (.int .i64 t))
        have R4 := Lib.hid ((((R2.out.other (b' := w.heap.size) (Nat.le_refl _) (by omega) 5 (.bool true)).other (b' := w.heap.size) (Nat.le_refl _) (by omega) 6 (.int .i64 ua)).other (b' := w.heap.size) (Nat.le_refl _) (by omega) 7 (.int .i64 uv)).other (b' := w.heap.size) (Nat.le_refl _) (by omega) 8 (.int .i64 t))
        clear B2 R2 r0 r1 r2 r3 r4 r5 r6 r7 r8 r9 x0 x1 x2 x3 x4 x5 x6 x7 x8 x9 C2 U2
        go_upto_region 8 with fail
        generalize (((V3.setCell ⟨w.heap.size, 5, none⟩ (.bool true)).setCell ⟨w.heap.size, 6, none⟩ (.int .i64 ua)).setCell ⟨w.heap.size, 7, none⟩ (.int .i64 uv)).setCell ⟨w.heap.size, 8, none⟩ (.int .i64 t) = V4 at *
        clear d0 d1 d2 d3 d4 d5 d6 d7 d8 d9 f0 f1 f2 f3 f4 f5 f6 f7 f8 f9 u0 u1 u2 c0
        obtain ⟨d0, d1, d2, d3, d4, d5, d6, d7, d8, d9⟩ := ten B4.out
        obtain ⟨r0, r1, r2, r3, r4, r5, r6, r7, r8, r9⟩ := ten R4.out
        obtain ⟨x0, x1, x2, x3, x4, x5, x6, x7, x8, x9⟩ := tenF R4.out
        have HE := Lib.hid (at_all R4.out (.int .i64 h.ad) (.bool h.eo) (.int .i64 h.ea) (.int .i64 h.eb) (.int .i64 h.et) (.bool true) (.int .i64 ua) (.int .i64 uv) (.int .i64 t) (.int .i64 fr1))
        go_wp2_with fail
        have hl := HE.out.load Try.underlying137 rfl (by kernel_rfl)
        refine bodyPost_ret (v := .agg #[.int .i64 h.ad, .bool h.eo, .int .i64 h.ea, .int .i64 h.eb, .int .i64 h.et, .bool true, .int .i64 ua, .int .i64 uv, .int .i64 t, .int .i64 fr1]) ?_ rfl ⟨by rw [HP.out], HE.out.1⟩
        rw [results_cell1 rfl]
        simp [asAddr, Result.andThen, hl]
  · have HP := Lib.hid (NO.out (fun e => hk e.1))
    have gk : (K != 2) = true := by simpa using hk
    clear NO OD EV hk
    generalize ukB D = ub at *
    obtain ⟨d0, d1, d2, d3, d4, d5, d6, d7, d8, d9⟩ := ten B2.out
    have HE := Lib.hid (at_all R2.out (.int .i64 h.ad) (.bool h.eo) (.int .i64 h.ea) (.int .i64 h.eb) (.int .i64 h.et) (.bool h.oo) (.int .i64 h.oa) (.int .i64 h.ob) (.int .i64 h.ot) (.int .i64 fr1))
    go_wp2_with fail
    have hl := HE.out.load Try.underlying137 rfl (by kernel_rfl)
    refine bodyPost_ret (v := .agg #[.int .i64 h.ad, .bool h.eo, .int .i64 h.ea, .int .i64 h.eb, .int .i64 h.et, .bool h.oo, .int .i64 h.oa, .int .i64 h.ob, .int .i64 h.ot, .int .i64 fr1]) ?_ rfl ⟨by rw [HP.out], HE.out.1⟩
    rw [results_cell1 rfl]
    simp [asAddr, Result.andThen, hl]

theorem tenO {T : TypeId} {cs : Array Value} {w W : World} {b g : Nat} (h : AtS T cs w W b) (hg : b < g) (x0 x1 x2 x3 x4 x5 x6 x7 x8 x9 : Value) : AtS T cs w ((((((((((W.setCell ⟨g, 0, none⟩ x0).setCell ⟨g, 1, none⟩ x1).setCell ⟨g, 2, none⟩ x2).setCell ⟨g, 3, none⟩ x3).setCell ⟨g, 4, none⟩ x4).setCell ⟨g, 5, none⟩ x5).setCell ⟨g, 6, none⟩ x6).setCell ⟨g, 7, none⟩ x7).setCell ⟨g, 8, none⟩ x8).setCell ⟨g, 9, none⟩ x9) b := by
  have h1 : w.heap.size ≤ g := Nat.le_trans h.2.1 (Nat.le_of_lt hg)
  have h2 : b ≠ g := Nat.ne_of_lt hg
  exact ((((((((((h.other h1 h2 0 x0).other h1 h2 1 x1).other h1 h2 2 x2).other h1 h2 3 x3).other h1 h2 4 x4).other h1 h2 5 x5).other h1 h2 6 x6).other h1 h2 7 x7).other h1 h2 8 x8).other h1 h2 9 x9)

set_option maxRecDepth 100000 in
set_option maxHeartbeats 8000000 in
theorem listWithFrame (m : Int) (hs : List Hd) (K A D t : Int) (b o c : Nat) (w : World) (hv : vB m hs = true) (hc : hs.length ≤ c) (h : RdH w w.heap.size (some ⟨b, o, none⟩) hs) :
    Calls Try.prog 141 #[.slice (some ⟨b, o, none⟩) hs.length c, .agg #[.int .i64 K, .int .i64 A, .int .i64 D], .int .i64 t] w fun e w' => ∃ v, e = .returned v ∧ w'.ownsRow w.heap.size 137 10 v (rL hs K A D t).length (rows (rL hs K A D t)) ∧ Below w.heap.size w w' := by
  have B0 := Lib.hid (newS 155 #[.int .i64 K, .int .i64 A, .int .i64 D] w)
  have PL := Lib.hid (fun W (hb : Below w.heap.size w W) => placeOfHeard m hs A (some ⟨b, o, none⟩) c W hv (h.next hb))
  have HR := Lib.hid (fun (wr : World) (hb : Below w.heap.size w wr) => h.below hb (Nat.le_refl _))
  have NW := Lib.hid (fun (wr : World) (hb : Below w.heap.size w wr) => RdH.news (h.below hb (Nat.le_refl _)))
  have TK := Lib.hid (fun (wr : World) (hb : Below w.heap.size w wr) i => rd_take (h.below hb (Nat.le_refl _)) i)
  have DR := Lib.hid (fun i => rd_drop2 (b := b) (o := o) i c hc)
  obtain ⟨i0, hi, hz0, hz1, hz2⟩ := info_parts infoH
  have H6 := (v_parts hv).2.1
  have KI := Lib.hid (fun (h : known hs A = true) => (known_iff.1 h).1)
  have FRV := Lib.hid (fun k (hk : k < hs.length) => (one_parts (v_one hv hk)).2.1)
  have RK := Lib.hid (fun (h : known hs A = true) => show rL hs K A D t = hs.take (lead hs A) ++ [withF (hx hs (lead hs A)) K D t] ++ hs.drop (lead hs A + 1) by unfold rL; rw [if_pos h])
  have RN := Lib.hid (fun (h : known hs A = false) => show rL hs K A D t = hs.take (lead hs A) ++ [withF (fresh A) K D t] ++ hs.drop (lead hs A) by unfold rL; rw [if_neg (by rw [h]; simp)])
  have LL := lead_le hs A
  have DL := Lib.hid (fun i => show (rows (hs.drop i)).length = (hs.length - i) * 10 by rw [rows_length, List.length_drop])
  have TL := Lib.hid (fun i (hi : i ≤ hs.length) => show (rows (hs.take i)).length = i * 10 by rw [rows_length, List.length_take, Nat.min_eq_left hi])
  generalize hN : hs.length = n at *
  have HN := Lib.hid hN
  clear h hN hv
  go_enter Try.func141, Try.ntmps141
  go_wp2_with fail
  refine (PL.out _ B0.out.1).mono ?_
  rintro e V1 ⟨rfl, hb1⟩
  have B1 := Lib.hid (B0.out.old hb1)
  clear B0 hb1 PL
  have RA := Lib.hid (show (fresh A).ad = A from rfl)
  generalize lead hs A = i at *
  have b1 : V1.cell? ⟨w.heap.size, 1, none⟩ = some (.int .i64 A) := B1.out.cell 1
  have g1 : (i : Int) ≤ (n : Int) := by omega
  obtain ⟨o1, ho1, hn1⟩ := DR.out i
  have HN1 := Lib.hid hn1
  have B2 := Lib.hid (B1.out.alloc (.cells #[.int .i64 A, .bool false, .int .i64 0, .int .i64 0, .int .i64 (-1), .bool false, .int .i64 0, .int .i64 0, .int .i64 (-1), .int .i64 0] 137))
  have G2 := Lib.hid (B1.out.next 137 #[.int .i64 A, .bool false, .int .i64 0, .int .i64 0, .int .i64 (-1), .bool false, .int .i64 0, .int .i64 0, .int .i64 (-1), .int .i64 0])
  clear hn1
  go_upto_region 4 with fail
  generalize V1.alloc (.cells #[.int .i64 A, .bool false, .int .i64 0, .int .i64 0, .int .i64 (-1), .bool false, .int .i64 0, .int .i64 0, .int .i64 (-1), .int .i64 0] 137) = V2 at *
  generalize V1.heap.size = g at *
  clear B1 b1
  cases hk : known hs A
  · have HX := Lib.hid (RN.out hk)
    have WF := Lib.hid (fun w => withFrame (fresh A) K A D t (by simp [fresh]) w)
    clear hk KI RK RN FRV DR
    have B3 := B2
    have G3 := G2
    have HSZ := Lib.hid (show g < V2.heap.size from G3.out.2.2.1)
    have LB := Lib.hid (show w.heap.size < V2.heap.size from B3.out.2.2.1)
    have ON := Lib.hid (own_nil V2 V2.heap.size 137 10)
    have hon := ON.out
    have tl := TL.out i LL
    have dl := DL.out (i)
    have tk := TK.out V2 B3.out.1 i
    go_wp2_with (at_builtin; refine wpList_append_own _ rfl (.tmp 34) (.tmp 37) 69 rfl V2.heap.size 137 i0 (hv zero) 10 80 Try.underlying69 hi hz0 hz1 hz2 rfl (by decide) _ 0 [] rfl hon ⟨b, o, none⟩ i c (rows (hs.take i)) rfl tl tk (rows_one_cell _) (by unfold maxLen; omega) (by omega) (Nat.le_refl _) ?_; intro v4 w4 hown4 hgrow4 hnil4; have HO4 := Lib.hid hown4; have B4 := Lib.hid (at_grow B3.out hon LB.out (Nat.le_of_lt LB.out) hgrow4); have G4 := Lib.hid (at_grow G3.out hon HSZ.out (Nat.le_of_lt LB.out) hgrow4); have SZ4 := Lib.hid hgrow4.size; clear hown4 hgrow4 hnil4 hon tk; obtain ⟨k0, k1, k2, k3, k4, k5, k6, k7, k8, k9⟩ := ten G4.out; have m0 : w4.cell? ⟨w.heap.size, 0, none⟩ = some (.int .i64 K) := B4.out.cell 0; have m1 : w4.cell? ⟨w.heap.size, 1, none⟩ = some (.int .i64 A) := B4.out.cell 1; have m2 : w4.cell? ⟨w.heap.size, 2, none⟩ = some (.int .i64 D) := B4.out.cell 2)
    refine (WF.out _).mono ?_
    rintro e V5 ⟨rfl, hb5⟩
    have B5 := Lib.hid (B4.out.old hb5)
    have HO5 := Lib.hid (own_.own_below HO4.out hb5)
    have SZ5 := Lib.hid (Nat.le_trans SZ4.out hb5.size)
    clear B4 G4 HO4 hb5 SZ4 k0 k1 k2 k3 k4 k5 k6 k7 k8 k9 m0 m1 m2 WF
    generalize hy : (withF (fresh A) K D t) = y at *
    have HY := Lib.hid hy
    clear hy
    have hon := HO5.out
    rw [Nat.zero_add, List.nil_append] at hon
    have sz5 := SZ5.out
    have nw := NW.out V5 B5.out.1
    go_wp2_with (at_builtin; refine wpList_append_own _ rfl (.tmp 39) (.tmp 44) 69 rfl V2.heap.size 137 i0 (hv zero) 10 80 Try.underlying69 hi hz0 hz1 hz2 rfl (by decide) _ i (rows (hs.take i)) rfl (hon.alloc _) ⟨V5.heap.size, 0, none⟩ 1 1 (row y) rfl rfl (cells_new _ _ #[.int .i64 y.ad, .bool y.eo, .int .i64 y.ea, .int .i64 y.eb, .int .i64 y.et, .bool y.oo, .int .i64 y.oa, .int .i64 y.ob, .int .i64 y.ot, .int .i64 y.fr]) (row_cell y) (by unfold maxLen; omega) (by omega) (by rw [World.size_alloc]; omega) ?_; intro v6 w6 hown6 hgrow6 hnil6; have HO6 := Lib.hid hown6; have B6 := Lib.hid (at_grow (B5.out.alloc _) (hon.alloc _) LB.out (Nat.le_of_lt LB.out) hgrow6); have SZ6 := Lib.hid (Nat.le_trans (show V2.heap.size ≤ (V5.alloc _).heap.size by rw [World.size_alloc]; omega) hgrow6.size); clear hown6 hgrow6 hnil6 hon nw; have hon := HO6.out; have sz6 := SZ6.out; have nw := HN1.out w6 (NW.out w6 B6.out.1); go_wp2_with (at_builtin; refine wpList_append_own _ rfl (.tmp 46) (.tmp 47) 69 rfl V2.heap.size 137 i0 (hv zero) 10 80 Try.underlying69 hi hz0 hz1 hz2 rfl (by decide) _ (i + 1) (rows (hs.take i) ++ row y) rfl hon ⟨b, o1, none⟩ (n - i) _ (rows (hs.drop (i))) rfl dl nw (rows_one_cell _) (by unfold maxLen; omega) (by omega) sz6 ?_; intro v7 w7 hown7 hgrow7 hnil7; have HO7 := Lib.hid hown7; have HB7 := Lib.hid (below_grow B6.out.1 hon (Nat.le_of_lt LB.out) hgrow7); clear hown7 hgrow7 hnil7 hon nw))
    go_ret
    refine ⟨_, rfl, ?_, HB7.out⟩
    rw [HX.out, rows_append, rows_append, rows_one, List.length_append, List.length_append, List.length_take, List.length_drop, HN.out, Nat.min_eq_left LL]
    exact own_.own_base HO7.out (Nat.le_of_lt LB.out)
  · have HX := Lib.hid (RK.out hk)
    have hlt := KI.out hk
    have FZ := FRV.out i hlt
    have WF := Lib.hid (fun w => withFrame (hx hs i) K A D t (by omega) w)
    clear hk KI RK RN FRV ho1 HN1
    have hlt2 : (i : Int) < (n : Int) := by omega
    obtain ⟨bb, oo, eb, hbl, c0, c1, c2, c3, c4, c5, c6, c7, c8, c9⟩ := (HR.out V2 B2.out.1).cells (k := i) (by rw [HN.out]; exact hlt)
    injection eb with eb
    injection eb with eb1 eb2
    subst eb1 eb2
    generalize hx hs i = z at *
    obtain ⟨o1, ho1, hn1⟩ := DR.out (i + 1)
    have HN1 := Lib.hid hn1
    have g2 : (i : Int) + 1 ≤ (n : Int) := by omega
    have G3 := Lib.hid (at_all G2.out (.int .i64 z.ad) (.bool z.eo) (.int .i64 z.ea) (.int .i64 z.eb) (.int .i64 z.et) (.bool z.oo) (.int .i64 z.oa) (.int .i64 z.ob) (.int .i64 z.ot) (.int .i64 z.fr))
    have LG := Lib.hid (show w.heap.size < g from Nat.lt_of_le_of_ne G2.out.2.1 (fun e => by have h1 := G2.out.2.2.2; have h2 := B2.out.2.2.2; rw [← e] at h1; rw [h2] at h1; injection h1 with h1; injection h1 with h1 h3; simp at h1))
    obtain ⟨f0, f1, f2, f3, f4, f5, f6, f7, f8, f9⟩ := ten G2.out
    obtain ⟨x0, x1, x2, x3, x4, x5, x6, x7, x8, x9⟩ := tenF G2.out
    have B3 := Lib.hid (tenO B2.out LG.out (.int .i64 z.ad) (.bool z.eo) (.int .i64 z.ea) (.int .i64 z.eb) (.int .i64 z.et) (.bool z.oo) (.int .i64 z.oa) (.int .i64 z.ob) (.int .i64 z.ot) (.int .i64 z.fr))
    clear hn1 DR B2 G2
    go_upto_region 7 with fail
    generalize ((((((((((V2.setCell ⟨g, 0, none⟩ (.int .i64 z.ad)).setCell ⟨g, 1, none⟩ (.bool z.eo)).setCell ⟨g, 2, none⟩ (.int .i64 z.ea)).setCell ⟨g, 3, none⟩ (.int .i64 z.eb)).setCell ⟨g, 4, none⟩ (.int .i64 z.et)).setCell ⟨g, 5, none⟩ (.bool z.oo)).setCell ⟨g, 6, none⟩ (.int .i64 z.oa)).setCell ⟨g, 7, none⟩ (.int .i64 z.ob)).setCell ⟨g, 8, none⟩ (.int .i64 z.ot)).setCell ⟨g, 9, none⟩ (.int .i64 z.fr)) = V3 at *
    clear f0 f1 f2 f3 f4 f5 f6 f7 f8 f9 x0 x1 x2 x3 x4 x5 x6 x7 x8 x9 c0 c1 c2 c3 c4 c5 c6 c7 c8 c9
    have HSZ := Lib.hid (show g < V3.heap.size from G3.out.2.2.1)
    have LB := Lib.hid (show w.heap.size < V3.heap.size from B3.out.2.2.1)
    have ON := Lib.hid (own_nil V3 V3.heap.size 137 10)
    have hon := ON.out
    have tl := TL.out i LL
    have dl := DL.out (i + 1)
    have tk := TK.out V3 B3.out.1 i
    go_wp2_with (at_builtin; refine wpList_append_own _ rfl (.tmp 34) (.tmp 37) 69 rfl V3.heap.size 137 i0 (hv zero) 10 80 Try.underlying69 hi hz0 hz1 hz2 rfl (by decide) _ 0 [] rfl hon ⟨b, o, none⟩ i c (rows (hs.take i)) rfl tl tk (rows_one_cell _) (by unfold maxLen; omega) (by omega) (Nat.le_refl _) ?_; intro v4 w4 hown4 hgrow4 hnil4; have HO4 := Lib.hid hown4; have B4 := Lib.hid (at_grow B3.out hon LB.out (Nat.le_of_lt LB.out) hgrow4); have G4 := Lib.hid (at_grow G3.out hon HSZ.out (Nat.le_of_lt LB.out) hgrow4); have SZ4 := Lib.hid hgrow4.size; clear hown4 hgrow4 hnil4 hon tk; obtain ⟨k0, k1, k2, k3, k4, k5, k6, k7, k8, k9⟩ := ten G4.out; have m0 : w4.cell? ⟨w.heap.size, 0, none⟩ = some (.int .i64 K) := B4.out.cell 0; have m1 : w4.cell? ⟨w.heap.size, 1, none⟩ = some (.int .i64 A) := B4.out.cell 1; have m2 : w4.cell? ⟨w.heap.size, 2, none⟩ = some (.int .i64 D) := B4.out.cell 2)
    refine (WF.out _).mono ?_
    rintro e V5 ⟨rfl, hb5⟩
    have B5 := Lib.hid (B4.out.old hb5)
    have HO5 := Lib.hid (own_.own_below HO4.out hb5)
    have SZ5 := Lib.hid (Nat.le_trans SZ4.out hb5.size)
    clear B4 G4 HO4 hb5 SZ4 k0 k1 k2 k3 k4 k5 k6 k7 k8 k9 m0 m1 m2 WF
    generalize hy : (withF z K D t) = y at *
    have HY := Lib.hid hy
    clear hy
    have hon := HO5.out
    rw [Nat.zero_add, List.nil_append] at hon
    have sz5 := SZ5.out
    have nw := NW.out V5 B5.out.1
    go_wp2_with (at_builtin; refine wpList_append_own _ rfl (.tmp 39) (.tmp 44) 69 rfl V3.heap.size 137 i0 (hv zero) 10 80 Try.underlying69 hi hz0 hz1 hz2 rfl (by decide) _ i (rows (hs.take i)) rfl (hon.alloc _) ⟨V5.heap.size, 0, none⟩ 1 1 (row y) rfl rfl (cells_new _ _ #[.int .i64 y.ad, .bool y.eo, .int .i64 y.ea, .int .i64 y.eb, .int .i64 y.et, .bool y.oo, .int .i64 y.oa, .int .i64 y.ob, .int .i64 y.ot, .int .i64 y.fr]) (row_cell y) (by unfold maxLen; omega) (by omega) (by rw [World.size_alloc]; omega) ?_; intro v6 w6 hown6 hgrow6 hnil6; have HO6 := Lib.hid hown6; have B6 := Lib.hid (at_grow (B5.out.alloc _) (hon.alloc _) LB.out (Nat.le_of_lt LB.out) hgrow6); have SZ6 := Lib.hid (Nat.le_trans (show V3.heap.size ≤ (V5.alloc _).heap.size by rw [World.size_alloc]; omega) hgrow6.size); clear hown6 hgrow6 hnil6 hon nw; have hon := HO6.out; have sz6 := SZ6.out; have nw := HN1.out w6 (NW.out w6 B6.out.1); go_wp2_with (at_builtin; refine wpList_append_own _ rfl (.tmp 46) (.tmp 47) 69 rfl V3.heap.size 137 i0 (hv zero) 10 80 Try.underlying69 hi hz0 hz1 hz2 rfl (by decide) _ (i + 1) (rows (hs.take i) ++ row y) rfl hon ⟨b, o1, none⟩ (n - (i + 1)) _ (rows (hs.drop (i + 1))) rfl dl nw (rows_one_cell _) (by unfold maxLen; omega) (by omega) sz6 ?_; intro v7 w7 hown7 hgrow7 hnil7; have HO7 := Lib.hid hown7; have HB7 := Lib.hid (below_grow B6.out.1 hon (Nat.le_of_lt LB.out) hgrow7); clear hown7 hgrow7 hnil7 hon nw))
    go_ret
    refine ⟨_, rfl, ?_, HB7.out⟩
    rw [HX.out, rows_append, rows_append, rows_one, List.length_append, List.length_append, List.length_take, List.length_drop, HN.out, Nat.min_eq_left LL]
    exact own_.own_base HO7.out (Nat.le_of_lt LB.out)
end Go.Proofs.Ytdjcbfeilkepmaa.rcvk
