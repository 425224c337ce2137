/- PassTime of spec and impl. -/
import Derived.Test.YtdeghpihcddlgaaRcvH
import Derived.Laws.AppendOwn
import Derived.Laws.MakeOwn
namespace Go.Proofs.Ytdeghpihcddlgaa.rcvj
open Go.RowKit Go.Proofs.Ytdeghpihcddlgaa.pos Go.Proofs.Ytdeghpihcddlgaa.in_ Go.Proofs.Ytdeghpihcddlgaa.rcv Go.Proofs.Ytdeghpihcddlgaa.rcvm Go.Proofs.Ytdeghpihcddlgaa.ats Go.Proofs.Ytdeghpihcddlgaa.lst Go.Proofs.Ytdeghpihcddlgaa.rcvh Go.Proofs.Ytdeghpihcddlgaa.rcvg

def ptM (m : Int) (hs : List Hd) (t : Int) : Int := if goB m hs t then t else 0
def ptV (m : Int) (hs : List Hd) (t : Int) : List Hd := if goB m hs t then ptL hs t else []
theorem pt_le (m : Int) (hs : List Hd) (t : Int) : (ptV m hs t).length ≤ hs.length := by
  unfold ptV
  split
  · exact pt_length hs t
  · exact Nat.zero_le _
theorem pt_none {m : Int} {hs : List Hd} {t : Int} (h : goB m hs t = false) : ptM m hs t = 0 ∧ ptV m hs t = [] := by unfold ptM ptV; rw [h]; exact ⟨rfl, rfl⟩
theorem pt_some {m : Int} {hs : List Hd} {t : Int} (h : goB m hs t = true) : ptM m hs t = t ∧ ptV m hs t = ptL hs t := by unfold ptM ptV; rw [h]; exact ⟨rfl, rfl⟩
theorem go_parts {m : Int} {hs : List Hd} {t : Int} (h : goB m hs t = true) : vB m hs = true ∧ (0 ≤ t ∧ t ≤ 9999) ∧ m ≤ t := by
  unfold goB at h
  rw [Bool.and_eq_true, Bool.and_eq_true] at h
  exact ⟨h.1, of_decide_eq_true h.2.1, of_decide_eq_true h.2.2⟩
theorem own_nil (w : World) (B e s : Nat) : w.ownsRow B e s (.slice none 0 0) 0 [] := ⟨by simp, .inl ⟨rfl, rfl⟩⟩
theorem own_growH {w : World} {B e : Nat} {v : Value} {L : List Hd} {z : Hd} (h : w.ownsRow B e 10 v (L.length + 1) (rows L ++ row z)) : w.ownsRow B e 10 v (L ++ [z]).length (rows (L ++ [z])) := by
  rw [rows_append, rows_one, List.length_append]; exact h
theorem row_cell (z : Hd) : ∀ u ∈ row z, u.oneCell' = true := fun u hu => rows_one_cell [z] u (by rw [rows_one]; exact hu)
theorem at_appB {T : TypeId} {cs : Array Value} {w W W' : World} {o : Obj} {B e s n b : Nat} {v : Value} {xs : List Value} (h : AtS T cs w W b) (hown : W.ownsRow B e s v n xs) (hlt : b < B) (hle : w.heap.size ≤ B) (hg : (W.alloc o).grownBy W' v.ownBlock) : AtS T cs w W' b := by
  have h1 := h.alloc o
  exact ⟨h1.1.grown hg h1.1.size (fun g e => Nat.le_trans hle (own_.row_ge hown g e)), h.2.1, Nat.lt_of_lt_of_le h1.2.2.1 hg.size, (hg.block _ h1.2.2.1 (fun e => by have := own_.row_ge hown _ e.symm; omega)).trans h1.2.2.2⟩
theorem own_setbox {W : World} {B e s n b : Nat} {v : Value} {xs : List Value} (h : W.ownsRow B e s v n xs) (hlt : b < B) (i : Nat) (u : Value) : (W.setCell ⟨b, i, none⟩ u).ownsRow B e s v n xs :=
  own_kept_at h (grown_set (grown_refl _ (some b)) i u) (fun g e e2 => by injection e2 with e2; have := own_.row_ge h g e; omega)

theorem four {T : TypeId} {cs : Array Value} {w W : World} {b g : Nat} (h : AtS T cs w W b) (hg : b + 1 ≤ g) (x1 x2 x3 x4 : Value) : AtS T cs w ((((W.setCell ⟨g, 1, none⟩ x1).setCell ⟨g, 2, none⟩ x2).setCell ⟨g, 3, none⟩ x3).setCell ⟨g, 4, none⟩ x4) b := by
  have h1 : w.heap.size ≤ g := Nat.le_trans h.2.1 (by omega)
  have h2 : b ≠ g := by omega
  exact (((h.other h1 h2 1 x1).other h1 h2 2 x2).other h1 h2 3 x3).other h1 h2 4 x4
theorem four5 {T : TypeId} {cs : Array Value} {w W : World} {b g : Nat} (h : AtS T cs w W b) (hg : b + 1 ≤ g) (x1 x2 x3 x4 : Value) : AtS T cs w ((((W.setCell ⟨g, 5, none⟩ x1).setCell ⟨g, 6, none⟩ x2).setCell ⟨g, 7, none⟩ x3).setCell ⟨g, 8, none⟩ x4) b := by
  have h1 : w.heap.size ≤ g := Nat.le_trans h.2.1 (by omega)
  have h2 : b ≠ g := by omega
  exact (((h.other h1 h2 5 x1).other h1 h2 6 x2).other h1 h2 7 x3).other h1 h2 8 x4
/-- A row of cells of another kind is no block of ten: stores into this leave it. -/
theorem own_not {W : World} {B e s n g : Nat} {v : Value} {xs : List Value} (h : W.ownsRow B e s v n xs) (hn : v.ownBlock ≠ some g) (i : Nat) (u : Value) : (W.setCell ⟨g, i, none⟩ u).ownsRow B e s v n xs :=
  own_kept_at h (grown_set (grown_refl _ (some g)) i u) (fun _ e e2 => hn (e.trans e2.symm))

theorem fourO {W : World} {B e s n g : Nat} {v : Value} {xs : List Value} (h : W.ownsRow B e s v n xs) (hn : v.ownBlock ≠ some g) (i j k l : Nat) (x1 x2 x3 x4 : Value) : ((((W.setCell ⟨g, i, none⟩ x1).setCell ⟨g, j, none⟩ x2).setCell ⟨g, k, none⟩ x3).setCell ⟨g, l, none⟩ x4).ownsRow B e s v n xs := own_not (own_not (own_not (own_not h hn i x1) hn j x2) hn k x3) hn l x4

/- impl's ifFresh. -/
theorem results_cell_slot {fn : Func} {p u : Tmp} {ty : TypeId} (h : fn.results = #[.cell p ty, .tmp u]) (tmps : Array Value) (P : Program) (w : World) :
    (results fn tmps).run P w = ((asAddr (tmps.getD p undef)).run P w).andThen fun a w₁ => ((loadVar ty a).run P w₁).andThen fun v w₂ => .ok (.tuple #[v, tmps.getD u undef]) w₂ := results_ct h tmps P w
set_option maxRecDepth 100000 in
theorem ifFresh (o : Bool) (a b t m : Int) (hm : 0 ≤ m ∧ m ≤ 9999) (ht : At m t) (w : World) :
    Calls Try.prog 87 #[.agg #[.bool o, .int .i64 a, .int .i64 b], .int .i64 t, .int .i64 m] w
      fun e w' => e = .returned (.tuple #[.agg #[.bool (fsh m t && o), .int .i64 (if fsh m t then a else 0), .int .i64 (if fsh m t then b else 0)], .int .i64 (if fsh m t then t else -1)]) ∧ Below w.heap.size w w' := by
  have C0 := Lib.hid ((newS 29 #[.bool o, .int .i64 a, .int .i64 b] w).next 29 #[.bool false, .int .i64 0, .int .i64 0])
  have CX := Lib.hid ((newS 29 #[.bool o, .int .i64 a, .int .i64 b] w).next 29 #[.bool o, .int .i64 a, .int .i64 b])
  rw [World.size_alloc] at C0 CX
  have F1 := Lib.hid (fun w => isFresh t m hm ht w)
  generalize fsh m t = q at *
  clear ht hm
  go_enter Try.func87, Try.ntmps87
  go_wp2_with fail
  refine (F1.out _).mono ?_
  rintro e w' ⟨rfl, rfl⟩
  cases q
  · go_wp2_with fail
    have hl := C0.out.load Try.underlying29 rfl (by kernel_rfl)
    refine bodyPost_ret (v := .tuple #[.agg #[.bool false, .int .i64 0, .int .i64 0], .int .i64 (-1)]) ?_ rfl ⟨rfl, C0.out.1⟩
    rw [results_ct rfl]
    simp [asAddr, Result.andThen, hl]
  · go_wp2_with fail
    have hl := CX.out.load Try.underlying29 rfl (by kernel_rfl)
    refine bodyPost_ret (v := .tuple #[.agg #[.bool o, .int .i64 a, .int .i64 b], .int .i64 t]) ?_ rfl ⟨rfl, CX.out.1⟩
    rw [results_ct rfl]
    simp [asAddr, Result.andThen, hl]
theorem fresh_even {m t : Int} {z : Hd} (h : half z.eo z.ea z.eb z.et false m = true) (hmt : m ≤ t) :
    (ptOne t z).eo = (fsh t z.et && z.eo) ∧ (ptOne t z).ea = (if fsh t z.et then z.ea else 0) ∧ (ptOne t z).eb = (if fsh t z.et then z.eb else 0) ∧ (ptOne t z).et = (if fsh t z.et then z.et else -1) ∧ At t (ptOne t z).et := by
  simp only [ptOne]
  rcases half_time h with e | ⟨e0, e1⟩
  · obtain ⟨h1, h2, h3⟩ := half_none h e
    have : fsh t z.et = false := by unfold fsh; exact decide_eq_false (by omega)
    rw [this, h1, h2, h3, e]
    simp
    exact .inl rfl
  · by_cases c : z.et < t - 10
    · have : fsh t z.et = false := by unfold fsh; exact decide_eq_false (by omega)
      simp only [this, if_pos c]
      exact ⟨rfl, rfl, rfl, rfl, .inl rfl⟩
    · have : fsh t z.et = true := by unfold fsh; exact decide_eq_true (by omega)
      simp only [this, if_neg c]
      exact ⟨rfl, rfl, rfl, rfl, .inr (by omega)⟩
theorem fresh_odd {m t : Int} {z : Hd} (h : half z.oo z.oa z.ob z.ot true m = true) (hmt : m ≤ t) :
    (ptOne t z).oo = (fsh t z.ot && z.oo) ∧ (ptOne t z).oa = (if fsh t z.ot then z.oa else 0) ∧ (ptOne t z).ob = (if fsh t z.ot then z.ob else 0) ∧ (ptOne t z).ot = (if fsh t z.ot then z.ot else -1) ∧ At t (ptOne t z).ot := by
  simp only [ptOne]
  rcases half_time h with e | ⟨e0, e1⟩
  · obtain ⟨h1, h2, h3⟩ := half_none h e
    have : fsh t z.ot = false := by unfold fsh; exact decide_eq_false (by omega)
    rw [this, h1, h2, h3, e]
    simp
    exact .inl rfl
  · by_cases c : z.ot < t - 10
    · have : fsh t z.ot = false := by unfold fsh; exact decide_eq_false (by omega)
      simp only [this, if_pos c]
      exact ⟨rfl, rfl, rfl, rfl, .inl rfl⟩
    · have : fsh t z.ot = true := by unfold fsh; exact decide_eq_true (by omega)
      simp only [this, if_neg c]
      exact ⟨rfl, rfl, rfl, rfl, .inr (by omega)⟩
theorem keep_at {t : Int} {y : Hd} (h1 : At t y.et) (h2 : At t y.ot) : keep y = ((y.et != -1) || (y.ot != -1)) := by
  unfold keep
  have q : ∀ x, At t x → (x != -1) = decide (0 ≤ x) := by
    intro x hx
    rcases hx with e | e
    · rw [e]; rfl
    · rw [decide_eq_true e.1]
      have : x ≠ -1 := by omega
      simpa using this
  rw [q _ h1, q _ h2]
  by_cases a : 0 ≤ y.et <;> by_cases b : 0 ≤ y.ot <;> simp [a, b]
theorem pt_ends (t : Int) (z : Hd) : (ptOne t z).ad = z.ad ∧ (ptOne t z).fr = z.fr := ⟨rfl, rfl⟩

set_option maxRecDepth 100000 in
set_option maxHeartbeats 8000000 in
theorem implPass (m : Int) (hs : List Hd) (t : Int) (A : Option Addr) (c : Nat) (w : World) (hn : hs.length ≤ 1048577) (h : RdH w w.heap.size A hs) :
    Calls Try.prog 28 #[.agg #[.int .i64 m, .slice A hs.length c], .int .i64 t] w fun e w' => ∃ v, e = .returned (.tuple #[.agg #[.int .i64 (ptM m hs t), v], .bool (goB m hs t)]) ∧ w'.ownsRow w.heap.size 54 10 v (ptV m hs t).length (rows (ptV m hs t)) ∧ Below w.heap.size w w' := by
  have B0 := Lib.hid ((newS 46 #[.int .i64 m, .slice A hs.length c] w).alloc (.cells #[.int .i64 0, .slice none 0 0] 46))
  have R0 := Lib.hid ((newS 46 #[.int .i64 m, .slice A hs.length c] w).next 46 #[.int .i64 0, .slice none 0 0])
  rw [World.size_alloc] at R0
  have HR := Lib.hid (fun (wr : World) (hb : Below w.heap.size w wr) => h.below hb (Nat.le_refl _))
  have GD := Lib.hid (fun W (hb : Below w.heap.size w W) => rcvb.canGoOn m hs t A c W hn (h.next hb))
  obtain ⟨i0, hi, hz0, hz1, hz2⟩ := info_parts infoH
  cases hv : goB m hs t
  · have HP := Lib.hid (pt_none hv)
    simp only [hv] at GD
    generalize hs.length = n at *
    clear h hv HR
    go_enter Try.func28, Try.ntmps28
    go_wp2_with fail
    refine (GD.out _ B0.out.1).mono ?_
    rintro e V2 ⟨rfl, hb2⟩
    have R2 := Lib.hid (R0.out.old hb2)
    clear B0 R0 hb2
    have r0 : V2.cell? ⟨w.heap.size + 1, 0, none⟩ = some (.int .i64 0) := R2.out.cell 0
    have r1 : V2.cell? ⟨w.heap.size + 1, 1, none⟩ = some (.slice none 0 0) := R2.out.cell 1
    have rf0 := R2.out.frozen 0
    have rf1 := R2.out.frozen 1
    have HE := Lib.hid ((R2.out.set 0 (.int .i64 0)).set 1 (.slice none 0 0))
    go_wp2_with fail
    have hl := HE.out.load Try.underlying46 rfl (by kernel_rfl)
    refine bodyPost_ret (v := .tuple #[.agg #[.int .i64 0, .slice none 0 0], .bool false]) ?_ rfl ⟨_, by rw [HP.out.1], by rw [HP.out.2]; exact own_nil _ _ _ _, HE.out.1⟩
    rw [results_ct rfl]
    simp [asAddr, Result.andThen, hl]
  · have HP := Lib.hid (pt_some hv)
    obtain ⟨hval, ht, hmt⟩ := go_parts hv
    have HT0 := Lib.hid ht
    have ONE := Lib.hid (fun k (hk : k < hs.length) => one_parts (v_one hval hk))
    have FE := Lib.hid (fun k (hk : k < hs.length) => fresh_even (one_parts (v_one hval hk)).2.2.1 hmt)
    have FO := Lib.hid (fun k (hk : k < hs.length) => fresh_odd (one_parts (v_one hval hk)).2.2.2 hmt)
    have AT := Lib.hid (fun k (hk : k < hs.length) => (one_at hval hk).2)
    have H6 := Lib.hid (v_parts hval).2.1
    have ST := Lib.hid (fun k (hk : k < hs.length) => pt_step t hk)
    have LE := Lib.hid (fun k => pt_length (hs.take k) t)
    have S0 := Lib.hid (show ptL (hs.take 0) t = [] by simp [ptL])
    have SA := Lib.hid (show ptL (hs.take hs.length) t = ptL hs t by rw [List.take_length])
    have MT := Lib.hid hmt
    simp only [hv] at GD
    generalize hN : hs.length = n at *
    have HN := Lib.hid hN
    have h6 := H6.out
    clear h hv hN hval ht hmt
    go_enter Try.func28, Try.ntmps28
    go_wp2_with fail
    refine (GD.out _ B0.out.1).mono ?_
    rintro e V2 ⟨rfl, hb2⟩
    have B2 := Lib.hid (B0.out.old hb2)
    have R2 := Lib.hid (R0.out.old hb2)
    clear B0 R0 hb2 GD
    have a1 : V2.cell? ⟨w.heap.size, 1, none⟩ = some (.slice A n c) := B2.out.cell 1
    go_wp2_with fail
    clear a1 B2
    go_loopw [6, 17] (fun v i wr => ∃ k : Nat, k ≤ n ∧ i = .int .i64 k ∧ wr.ownsRow (w.heap.size + 1 + 1) 54 10 v (ptL (hs.take k) t).length (rows (ptL (hs.take k) t)) ∧ AtS 46 #[.int .i64 0, .slice none 0 0] w wr (w.heap.size + 1)) (fun _ i _ => n - (intOf i).toNat)
    case atStart => exact ⟨0, Nat.zero_le _, rfl, by rw [S0.out]; exact own_nil _ _ _ _, R2.out⟩
    case round =>
      obtain ⟨k, hk, rfl, hown, hB⟩ := hrel
      have BR := Lib.hid hB
      have HB := Lib.hid hB.1
      have HO := Lib.hid hown
      clear hB hown R2
      by_cases hlt : k < n
      · obtain ⟨b, o, rfl, hbl, c0, c1, c2, c3, c4, c5, c6, c7, c8, c9⟩ := (HR.out wr HB.out).cells (k := k) (by rw [HN.out]; exact hlt)
        have hlt2 : (k : Int) < (n : Int) := by omega
        obtain ⟨z1, z2⟩ := AT.out k hlt
        obtain ⟨e1, e2, e3, e4, y1⟩ := FE.out k hlt
        obtain ⟨o1, o2, o3, o4, y2⟩ := FO.out k hlt
        obtain ⟨p1, p2⟩ := pt_ends t (hx hs k)
        have HS := Lib.hid (ST.out k hlt)
        have HL := Lib.hid (LE.out k)
        have KP := Lib.hid (keep_at y1 y2)
        have IE := Lib.hid (fun w => ifFresh (hx hs k).eo (hx hs k).ea (hx hs k).eb (hx hs k).et t HT0.out (by rcases z1 with q | q; exact .inl q; exact .inr (by have := MT.out; omega)) w)
        have IO := Lib.hid (fun w => ifFresh (hx hs k).oo (hx hs k).oa (hx hs k).ob (hx hs k).ot t HT0.out (by rcases z2 with q | q; exact .inl q; exact .inr (by have := MT.out; omega)) w)
        rw [← e1, ← e2, ← e3, ← e4] at IE
        rw [← o1, ← o2, ← o3, ← o4] at IO
        rw [← p1] at c0
        rw [← p2] at c9
        clear e1 e2 e3 e4 o1 o2 o3 o4 p1 p2 y1 y2 z1 z2
        generalize hy : ptOne t (hx hs k) = y at *
        clear hy
        generalize hx hs k = z at *
        have BH := Lib.hid (BR.out.next 54 #[.int .i64 y.ad, .bool z.eo, .int .i64 z.ea, .int .i64 z.eb, .int .i64 z.et, .bool z.oo, .int .i64 z.oa, .int .i64 z.ob, .int .i64 z.ot, .int .i64 y.fr])
        have BA := Lib.hid (BR.out.alloc (.cells #[.int .i64 y.ad, .bool z.eo, .int .i64 z.ea, .int .i64 z.eb, .int .i64 z.et, .bool z.oo, .int .i64 z.oa, .int .i64 z.ob, .int .i64 z.ot, .int .i64 y.fr] 54))
        have HO1 := Lib.hid (HO.out.alloc (.cells #[.int .i64 y.ad, .bool z.eo, .int .i64 z.ea, .int .i64 z.eb, .int .i64 z.et, .bool z.oo, .int .i64 z.oa, .int .i64 z.ob, .int .i64 z.ot, .int .i64 y.fr] 54))
        have HGE := Lib.hid (show w.heap.size + 1 + 1 ≤ wr.heap.size from BR.out.2.2.1)
        have NEG := Lib.hid (fun e => Nat.lt_irrefl _ (own_row_lt HO.out wr.heap.size e))
        clear BR HO
        go_upto_region 7 with fail
        clear c0 c1 c2 c3 c4 c5 c6 c7 c8 c9
        generalize wr.alloc (.cells #[.int .i64 y.ad, .bool z.eo, .int .i64 z.ea, .int .i64 z.eb, .int .i64 z.et, .bool z.oo, .int .i64 z.oa, .int .i64 z.ob, .int .i64 z.ot, .int .i64 y.fr] 54) = V at *
        generalize wr.heap.size = g at *
        obtain ⟨d0, d1, d2, d3, d4, d5, d6, d7, d8, d9⟩ := ten BH.out
        go_wp2_with fail
        refine (IE.out _).mono ?_
        rintro e V3 ⟨rfl, hb3⟩
        have BV := Lib.hid (BA.out.old hb3)
        have BW := Lib.hid (BH.out.old hb3)
        have HO2 := Lib.hid (own_.own_below HO1.out hb3)
        clear d0 d1 d2 d3 d4 d5 d6 d7 d8 d9 BA BH hb3 IE HO1
        obtain ⟨d0, d1, d2, d3, d4, d5, d6, d7, d8, d9⟩ := ten BW.out
        obtain ⟨f0, f1, f2, f3, f4, f5, f6, f7, f8, f9⟩ := tenF BW.out
        have BW4 := Lib.hid (at_even BW.out (.bool y.eo) (.int .i64 y.ea) (.int .i64 y.eb) (.int .i64 y.et))
        have BV4 := Lib.hid (four BV.out HGE.out (.bool y.eo) (.int .i64 y.ea) (.int .i64 y.eb) (.int .i64 y.et))
        have HO4 := Lib.hid (fourO HO2.out NEG.out 1 2 3 4 (.bool y.eo) (.int .i64 y.ea) (.int .i64 y.eb) (.int .i64 y.et))
        clear BW BV HO2
        go_upto_region 8 with fail
        generalize (((V3.setCell ⟨g, 1, none⟩ (.bool y.eo)).setCell ⟨g, 2, none⟩ (.int .i64 y.ea)).setCell ⟨g, 3, none⟩ (.int .i64 y.eb)).setCell ⟨g, 4, none⟩ (.int .i64 y.et) = V4 at *
        clear d0 d1 d2 d3 d4 d5 d6 d7 d8 d9 f0 f1 f2 f3 f4 f5 f6 f7 f8 f9
        obtain ⟨d0, d1, d2, d3, d4, d5, d6, d7, d8, d9⟩ := ten BW4.out
        go_wp2_with fail
        refine (IO.out _).mono ?_
        rintro e V5 ⟨rfl, hb5⟩
        have BV5 := Lib.hid (BV4.out.old hb5)
        have BW5 := Lib.hid (BW4.out.old hb5)
        have HO5 := Lib.hid (own_.own_below HO4.out hb5)
        clear d0 d1 d2 d3 d4 d5 d6 d7 d8 d9 BV4 BW4 hb5 IO HO4
        obtain ⟨d0, d1, d2, d3, d4, d5, d6, d7, d8, d9⟩ := ten BW5.out
        obtain ⟨f0, f1, f2, f3, f4, f5, f6, f7, f8, f9⟩ := tenF BW5.out
        have BW6 := Lib.hid (at_odd BW5.out (.bool y.oo) (.int .i64 y.oa) (.int .i64 y.ob) (.int .i64 y.ot))
        have BV6 := Lib.hid (four5 BV5.out HGE.out (.bool y.oo) (.int .i64 y.oa) (.int .i64 y.ob) (.int .i64 y.ot))
        have HO6 := Lib.hid (fourO HO5.out NEG.out 5 6 7 8 (.bool y.oo) (.int .i64 y.oa) (.int .i64 y.ob) (.int .i64 y.ot))
        clear BW5 BV5 HO5
        go_upto_region 9 with fail
        generalize (((V5.setCell ⟨g, 5, none⟩ (.bool y.oo)).setCell ⟨g, 6, none⟩ (.int .i64 y.oa)).setCell ⟨g, 7, none⟩ (.int .i64 y.ob)).setCell ⟨g, 8, none⟩ (.int .i64 y.ot) = V6 at *
        clear d0 d1 d2 d3 d4 d5 d6 d7 d8 d9 f0 f1 f2 f3 f4 f5 f6 f7 f8 f9
        obtain ⟨d0, d1, d2, d3, d4, d5, d6, d7, d8, d9⟩ := ten BW6.out
        generalize hk1 : (y.et != -1) = k1 at *
        generalize hk2 : (y.ot != -1) = k2 at *
        rcases k1 with _ | _ <;> rcases k2 with _ | _
        · have H0 := Lib.hid (show ptL (hs.take (k + 1)) t = ptL (hs.take k) t by rw [HS.out, KP.out]; simp)
          go_wp2_with fail
          go_roundw
          case rel => exact ⟨k + 1, by omega, by go_num, by rw [H0.out]; exact HO6.out, BV6.out⟩
          case measure => simp [intOf]; omega
        · have hown := HO6.out
          have hlen := HL.out
          have hk6 : (hs.take k).length ≤ 6 := by rw [List.length_take, HN.out]; omega
          have HSZ := Lib.hid (show w.heap.size + 1 + 1 ≤ V6.heap.size from BV6.out.2.2.1)
          have hsz2 := HSZ.out
          have H1 := Lib.hid (show ptL (hs.take (k + 1)) t = ptL (hs.take k) t ++ [y] by rw [HS.out, KP.out]; simp)
          generalize ptL (hs.take k) t = fa at *
          go_wp2_with (at_builtin; refine wpList_append_own _ rfl (.tmp 51) (.tmp 53) 44 rfl (w.heap.size + 1 + 1) 54 i0 (hv zero) 10 80 Try.underlying44 hi hz0 hz1 hz2 rfl (by decide) _ fa.length (rows fa) rfl (hown.alloc _) ⟨V6.heap.size, 0, none⟩ 1 1 (row y) rfl rfl (cells_new _ _ #[.int .i64 y.ad, .bool y.eo, .int .i64 y.ea, .int .i64 y.eb, .int .i64 y.et, .bool y.oo, .int .i64 y.oa, .int .i64 y.ob, .int .i64 y.ot, .int .i64 y.fr]) (row_cell y) (by unfold maxLen; omega) (by omega) (by simp; omega) ?_; intro v' w3 hown' hgrow hnil)
          have HO7 := Lib.hid (own_growH hown')
          have BR7 := Lib.hid (at_appB BV6.out hown (Nat.lt_succ_self _) (Nat.le_trans (Nat.le_succ _) (Nat.le_succ _)) hgrow)
          clear hown' hgrow hnil hown d0 d1 d2 d3 d4 d5 d6 d7 d8 d9
          go_roundw
          case rel => exact ⟨k + 1, by omega, by go_num, by rw [H1.out]; exact HO7.out, BR7.out⟩
          case measure => simp [intOf]; omega
        · have hown := HO6.out
          have hlen := HL.out
          have hk6 : (hs.take k).length ≤ 6 := by rw [List.length_take, HN.out]; omega
          have HSZ := Lib.hid (show w.heap.size + 1 + 1 ≤ V6.heap.size from BV6.out.2.2.1)
          have hsz2 := HSZ.out
          have H1 := Lib.hid (show ptL (hs.take (k + 1)) t = ptL (hs.take k) t ++ [y] by rw [HS.out, KP.out]; simp)
          generalize ptL (hs.take k) t = fa at *
          go_wp2_with (at_builtin; refine wpList_append_own _ rfl (.tmp 51) (.tmp 53) 44 rfl (w.heap.size + 1 + 1) 54 i0 (hv zero) 10 80 Try.underlying44 hi hz0 hz1 hz2 rfl (by decide) _ fa.length (rows fa) rfl (hown.alloc _) ⟨V6.heap.size, 0, none⟩ 1 1 (row y) rfl rfl (cells_new _ _ #[.int .i64 y.ad, .bool y.eo, .int .i64 y.ea, .int .i64 y.eb, .int .i64 y.et, .bool y.oo, .int .i64 y.oa, .int .i64 y.ob, .int .i64 y.ot, .int .i64 y.fr]) (row_cell y) (by unfold maxLen; omega) (by omega) (by simp; omega) ?_; intro v' w3 hown' hgrow hnil)
          have HO7 := Lib.hid (own_growH hown')
          have BR7 := Lib.hid (at_appB BV6.out hown (Nat.lt_succ_self _) (Nat.le_trans (Nat.le_succ _) (Nat.le_succ _)) hgrow)
          clear hown' hgrow hnil hown d0 d1 d2 d3 d4 d5 d6 d7 d8 d9
          go_roundw
          case rel => exact ⟨k + 1, by omega, by go_num, by rw [H1.out]; exact HO7.out, BR7.out⟩
          case measure => simp [intOf]; omega
        · have hown := HO6.out
          have hlen := HL.out
          have hk6 : (hs.take k).length ≤ 6 := by rw [List.length_take, HN.out]; omega
          have HSZ := Lib.hid (show w.heap.size + 1 + 1 ≤ V6.heap.size from BV6.out.2.2.1)
          have hsz2 := HSZ.out
          have H1 := Lib.hid (show ptL (hs.take (k + 1)) t = ptL (hs.take k) t ++ [y] by rw [HS.out, KP.out]; simp)
          generalize ptL (hs.take k) t = fa at *
          go_wp2_with (at_builtin; refine wpList_append_own _ rfl (.tmp 51) (.tmp 53) 44 rfl (w.heap.size + 1 + 1) 54 i0 (hv zero) 10 80 Try.underlying44 hi hz0 hz1 hz2 rfl (by decide) _ fa.length (rows fa) rfl (hown.alloc _) ⟨V6.heap.size, 0, none⟩ 1 1 (row y) rfl rfl (cells_new _ _ #[.int .i64 y.ad, .bool y.eo, .int .i64 y.ea, .int .i64 y.eb, .int .i64 y.et, .bool y.oo, .int .i64 y.oa, .int .i64 y.ob, .int .i64 y.ot, .int .i64 y.fr]) (row_cell y) (by unfold maxLen; omega) (by omega) (by simp; omega) ?_; intro v' w3 hown' hgrow hnil)
          have HO7 := Lib.hid (own_growH hown')
          have BR7 := Lib.hid (at_appB BV6.out hown (Nat.lt_succ_self _) (Nat.le_trans (Nat.le_succ _) (Nat.le_succ _)) hgrow)
          clear hown' hgrow hnil hown d0 d1 d2 d3 d4 d5 d6 d7 d8 d9
          go_roundw
          case rel => exact ⟨k + 1, by omega, by go_num, by rw [H1.out]; exact HO7.out, BR7.out⟩
          case measure => simp [intOf]; omega
      · obtain rfl : k = n := by omega
        have HF2 := Lib.hid (show ptV m hs t = ptL (hs.take k) t by rw [HP.out.2, SA.out])
        obtain ⟨Av, cv, rfl⟩ := own_sliceZ HO.out
        generalize hf : ptL (hs.take k) t = fa at *
        have HFA := Lib.hid hf
        clear hf
        have r0 : wr.cell? ⟨w.heap.size + 1, 0, none⟩ = some (.int .i64 0) := BR.out.cell 0
        have r1 : wr.cell? ⟨w.heap.size + 1, 1, none⟩ = some (.slice none 0 0) := BR.out.cell 1
        have rf0 := BR.out.frozen 0
        have rf1 := BR.out.frozen 1
        have HE := Lib.hid ((BR.out.set 0 (.int .i64 t)).set 1 (.slice Av fa.length cv))
        have HO9 := Lib.hid (own_setbox (own_setbox HO.out (Nat.lt_succ_self _) 0 (.int .i64 t)) (Nat.lt_succ_self _) 1 (.slice Av fa.length cv))
        go_wp2_with fail
        (try simp only [Exit.inBlock, Exit.then])
        have hl := HE.out.load Try.underlying46 rfl (by kernel_rfl)
        refine bodyPost_ret (v := .tuple #[.agg #[.int .i64 t, (.slice Av fa.length cv)], .bool true]) ?_ rfl ⟨_, by rw [HP.out.1], by rw [HF2.out]; exact own_.own_base HO9.out (Nat.le_trans (Nat.le_succ _) (Nat.le_succ _)), HE.out.1⟩
        rw [results_ct rfl]
        simp [asAddr, Result.andThen, hl]
end Go.Proofs.Ytdeghpihcddlgaa.rcvj
