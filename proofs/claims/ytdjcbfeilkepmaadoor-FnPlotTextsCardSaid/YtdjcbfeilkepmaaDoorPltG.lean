/- spec's l13Groups: the groups of sightings, a slice of slices of numbers. -/
import Derived.Test.YtdjcbfeilkepmaaDoorPltS
import Derived.Test.YtdjcbfeilkepmaaDoorRws
namespace Go.Proofs.YtdjcbfeilkepmaaDoor.pltg
open Go.RowKit Go.Proofs.YtdjcbfeilkepmaaDoor.ints Go.Proofs.YtdjcbfeilkepmaaDoor.lst Go.Proofs.YtdjcbfeilkepmaaDoor.in_ Go.Proofs.YtdjcbfeilkepmaaDoor.ats Go.Proofs.YtdjcbfeilkepmaaDoor.pos Go.Proofs.YtdjcbfeilkepmaaDoor.plt Go.Proofs.YtdjcbfeilkepmaaDoor.pltm Go.Proofs.YtdjcbfeilkepmaaDoor.plte Go.Proofs.YtdjcbfeilkepmaaDoor.plts Go.Proofs.YtdjcbfeilkepmaaDoor.rws

def rowS (q : List Nat) : List Value := cellsI (q.map fun k => ((k : Nat) : Int))
theorem rowS_length (q : List Nat) : (rowS q).length = q.length * 1 := by simp [rowS, cellsI]
theorem rowS_at {q : List Nat} {j m : Nat} (h : q[j]? = some m) : (rowS q)[j]? = some (.int .i64 ((m : Nat) : Int)) := by simp [rowS, cellsI, h]
theorem rowS_app (q : List Nat) (k : Nat) : rowS q ++ [.int .i64 ((k : Nat) : Int)] = rowS (q ++ [k]) := by simp [rowS, cellsI]
/-- A slice of the groups, of the call's own. -/
def GS (B : Nat) (W : World) (v : Value) (G : List (List Nat)) : Prop := Gr B 26 3 1 W v (G.map rowS)
section
variable {B : Nat} {W W' : World} {v : Value} {G : List (List Nat)}
theorem GS.below (h : GS B W v G) (hb : Below W.heap.size W W') : GS B W' v G := Gr.below h hb
theorem GS.slice (h : GS B W v G) : ∃ A c, v = .slice A G.length c := by
  obtain ⟨A, c, e⟩ := Gr.slice h
  rw [List.length_map] at e
  exact ⟨A, c, e⟩
theorem GS.read (h : GS B W v G) {g : Nat} {q : List Nat} (hq : G[g]? = some q) (h0 : 0 < q.length) :
    ∃ ob oc gb uc, v = .slice (some ⟨ob, 0, none⟩) G.length oc ∧ ob < W.heap.size ∧ B ≤ ob ∧ W.cell? ⟨ob, g, none⟩ = some (.slice (some ⟨gb, 0, none⟩) q.length uc) ∧ W.frozen? ⟨ob, g, none⟩ = false ∧ gb < W.heap.size ∧
      (∀ j m, q[j]? = some m → W.cell? ⟨gb, j, none⟩ = some (.int .i64 ((m : Nat) : Int))) ∧ W.ownsRow B 3 1 (.slice (some ⟨gb, 0, none⟩) q.length uc) q.length (rowS q) ∧ ob ≠ gb := by
  have hr : (G.map rowS)[g]? = some (rowS q) := by rw [List.getElem?_map, hq]; rfl
  obtain ⟨ob, oc, u, e, h1, h2, h3, h4, h5⟩ := Gr.at_ h hr (by decide) (rowS_length q)
  rw [List.length_map] at e
  rcases h5.2 with ⟨_, e0⟩ | ⟨gb, cap, cur, hv, hB, hh, _⟩
  · omega
  · subst hv
    have hl := (h5.lt gb rfl).2
    exact ⟨ob, oc, gb, cap, e, h1, h2, h3, h4, hl, fun j m hm => by
      have := h5.cells (g := gb) rfl j _ (rowS_at hm)
      rwa [Addr.add_lit, Nat.zero_add] at this, h5, fun e0 => by
      obtain ⟨us, hus, _⟩ := h
      exact rws.apart h5 hus (by decide) (g := gb) rfl (by rw [e, ← e0]; rfl)⟩
theorem GS.app (h : GS B W v G) {g ob oc k : Nat} {q : List Nat} {u u' : Value} (hq : G[g]? = some q) (hv : v = .slice (some ⟨ob, 0, none⟩) G.length oc) (hu : W.cell? ⟨ob, g, none⟩ = some u)
    (hg : W.grownBy W' u.ownBlock) (ho : W'.ownsRow B 3 1 u' (q.length + 1) (rowS q ++ [.int .i64 ((k : Nat) : Int)])) (hn : u'.ownBlock = u.ownBlock ∨ u'.ownBlock = some W.heap.size) : GS B (W'.setCell ⟨ob, g, none⟩ u') v (G.set g (q ++ [k])) := by
  have hl := (List.getElem?_eq_some_iff.1 hq).1
  rw [rowS_app] at ho
  have := Gr.set_ h (by decide) (i := g) (by rw [List.length_map]; exact hl) (by rw [List.length_map]; exact hv) hu hg ho hn
  unfold GS
  rw [List.map_set]
  exact this
theorem GS.push {us : List Value} (h1 : W.ownsRow B 26 1 v G.length us) (h2 : Ins B 3 1 W us (G.map rowS)) {W1 : World} {v' : Value} {k b : Nat} (hb : Below W.heap.size W W1) (hW : W.heap.size ≤ b)
    (hu : W1.ownsRow B 3 1 (.slice (some ⟨b, 0, none⟩) 1 1) 1 [.int .i64 ((k : Nat) : Int)]) (hg : W1.grownBy W' v.ownBlock) (ho : W'.ownsRow B 26 1 v' (G.length + 1) (us ++ [.slice (some ⟨b, 0, none⟩) 1 1])) : GS B W' v' (G ++ [[k]]) := by
  have h1' := own_.own_below h1 hb
  have h3 := (h2.below hb).push hu (fun g i u' e1 e2 e3 => by
    simp [Value.ownBlock] at e1
    have := h2.lt e2 e3
    omega)
  refine ⟨us ++ [.slice (some ⟨b, 0, none⟩) 1 1], by rw [List.map_append, List.length_append, List.length_map]; exact ho, ?_⟩
  rw [List.map_append]
  refine h3.kept hg fun g j w0 e hw hg0 => ?_
  obtain ⟨k1, r1, ho1⟩ := h3.row hw
  exact rws.apart ho1 h1' (by decide) hg0 e
theorem own_one (hB : B ≤ W.heap.size) (k : Nat) (o : Obj) : ((W.alloc (.cells #[.int .i64 ((k : Nat) : Int)] 3)).alloc o).ownsRow B 3 1 (.slice (some ⟨W.heap.size, 0, none⟩) 1 1) 1 [.int .i64 ((k : Nat) : Int)] :=
  World.ownsRow.alloc ⟨rfl, .inr ⟨W.heap.size, 1, #[.int .i64 ((k : Nat) : Int)], rfl, hB, heap_alloc_new W _, Nat.le_refl _, by unfold maxLen; omega, rfl, rfl⟩⟩ o
end
theorem infoL : (Tryd.prog.info? 26).map (fun i => (i.zero, i.size, i.bytes)) = some (some (.slice none 0 0), 1, 24) := by kernel_rfl

set_option maxRecDepth 100000 in
set_option maxHeartbeats 8000000 in
theorem groups13 (zs : List Int) (ww r : Int) (A : Option Addr) (n c : Nat) (w : World) (hs : svB zs n = true) (h1 : RdZ 5 w w.heap.size A n zs) :
    Calls Tryd.prog 55 #[.slice A n c, .int .i64 ww, .int .i64 r] w fun e w' => ∃ v, e = .returned v ∧ GS w.heap.size w' v (grp zs ww r n) ∧ Below w.heap.size w w' := by
  have HS := Lib.hid hs
  have HR := Lib.hid h1
  have hn20 : n ≤ 20 := (svB_yes hs).2
  obtain ⟨iI, hiI, hzI0, hzI1, hzI2⟩ := info_parts infoI
  obtain ⟨iL, hiL, hzL0, hzL1, hzL2⟩ := info_parts infoL
  have O0 := Lib.hid (show GS w.heap.size (w.alloc (.cells #[] 26)) (.slice (some ⟨w.heap.size, 0, none⟩) 0 0) [] from Gr.nil (own_.own_empty w _))
  have E0 := Lib.hid ((Below.refl w.heap.size w).alloc (Nat.le_refl _) (.cells #[] 26))
  clear hs h1
  go_enter Tryd.func55, Tryd.ntmps55
  go_wp2_with fail
  go_loopw [7, 8] (fun v i wr => ∃ k : Nat, k ≤ n ∧ i = .int .i64 k ∧ GS w.heap.size wr v (grp zs ww r k) ∧ Below w.heap.size w wr) (fun _ i _ => n - (intOf i).toNat)
  case atStart => exact ⟨0, Nat.zero_le _, rfl, O0.out, E0.out⟩
  case round =>
    obtain ⟨k, hk, rfl, hG, hb⟩ := hrel
    clear O0 E0
    by_cases hlt : k < n
    · have hlt2 : (k : Int) < (n : Int) := by omega
      obtain ⟨b1, o1, rfl, -, -⟩ := cellsE (HR.out.below hb (Nat.le_refl _)) hlt
      obtain ⟨A7, c7, rfl⟩ := hG.slice
      have HG1 := Lib.hid hG
      have HB1 := Lib.hid hb
      have HGL := Lib.hid (show (grp zs ww r k).length ≤ 20 from Nat.le_trans (grp_len ..) (by omega))
      have HNE := Lib.hid (grp_ne (zs := zs) (w := ww) (r := r) (k := k))
      have HML := Lib.hid (fun g q (h : (grp zs ww r k)[g]? = some q) => grp_lt h)
      have HSM := Lib.hid (fun g q (h : (grp zs ww r k)[g]? = some q) => grp_small h)
      have HGK := Lib.hid (show grp zs ww r (k + 1) = put (grp zs ww r k) (pos zs ww r k (grp zs ww r k)) k from rfl)
      have HPL := Lib.hid (pos_le zs ww r k (grp zs ww r k))
      clear hG hb
      generalize grp zs ww r k = G at *
      generalize hgl : G.length = gl at *
      have HGE := Lib.hid hgl
      clear hgl
      go_wp2_with fail
      go_loopw [9, 10] (fun jv i wr => ∃ (jb : Bool) (g : Nat), g ≤ gl ∧ jv = .bool jb ∧ i = .int .i64 g ∧ GS w.heap.size wr (.slice A7 gl c7) (if jb then put G (pos zs ww r k G) k else G) ∧ Below w.heap.size w wr ∧ (jb = false → ∀ i q, i < g → G[i]? = some q → fitB zs ww r k q = false) ∧ (jb = true → pos zs ww r k G < gl)) (fun _ i _ => gl - (intOf i).toNat)
      case atStart => exact ⟨false, 0, Nat.zero_le _, rfl, rfl, HG1.out, HB1.out, fun _ i q h => absurd h (Nat.not_lt_zero _), fun h => by cases h⟩
      case round =>
        obtain ⟨jb, g, hg, rfl, rfl, hG, hb, hnf, hjp⟩ := hrel
        clear HG1 HB1
        cases jb
        · have hG : GS w.heap.size wr (.slice A7 gl c7) G := hG
          have HNF := Lib.hid (hnf rfl)
          clear hnf hjp
          by_cases hgl : g < gl
          · have hgl2 : (g : Int) < (gl : Int) := by omega
            obtain ⟨q, hq⟩ : ∃ q, G[g]? = some q := ⟨_, List.getElem?_eq_getElem (by rw [HGE.out]; exact hgl)⟩
            have hql := HNE.out g q hq
            have HMK := Lib.hid (HML.out g q hq)
            have hqs := HSM.out g q hq
            obtain ⟨ob, oc, gb, uc, hv, hob, hBo, q0, fr0, hgb, qc, -, -⟩ := hG.read hq hql
            obtain ⟨rfl, rfl⟩ : A7 = some ⟨ob, 0, none⟩ ∧ c7 = oc := by injection hv with e1 e2 e3; exact ⟨e1, e3⟩
            clear hv
            have HQ := Lib.hid hq
            have hq00 : q[0]? = some (q.headD 0) := by cases q with
              | nil => simp at hql
              | cons a l => rfl
            have hm0k : q.headD 0 < k := HMK.out _ (List.mem_of_getElem? hq00)
            have q1 : wr.cell? ⟨gb, 0, none⟩ = some (.int .i64 ((q.headD 0 : Nat) : Int)) := qc 0 _ hq00
            have HFB := Lib.hid (show (twK zs ww r (q.headD 0) k && noB zs k q) = fitB zs ww r k q from rfl)
            have TZ := Lib.hid (show (twK zs ww r (q.headD 0) k && noB zs k (q.take 0)) = twK zs ww r (q.headD 0) k by rw [List.take_zero]; exact Bool.and_true _)
            have TL := Lib.hid (show q.take q.length = q from List.take_length)
            clear hq00 hq
            generalize hm0 : q.headD 0 = m0 at *
            generalize hqe : q.length = ql at *
            have HQL := Lib.hid hqe
            clear hm0 hqe
            have hm0n : (m0 : Int) < (n : Int) := by omega
            have hm00 : (0 : Int) ≤ (m0 : Int) := Int.natCast_nonneg _
            have hql2 : (0 : Int) < (ql : Int) := by omega
            obtain ⟨b2, o2, eA, -, a0, a1, a2, a3, a4⟩ := cellsE (HR.out.below hb (Nat.le_refl _)) (show m0 < n by omega)
            obtain ⟨rfl, rfl⟩ : b1 = b2 ∧ o1 = o2 := by injection eA with e; injection e with e1 e2; exact ⟨e1, e2⟩
            obtain ⟨b3, o3, eB, -, p0, p1, p2, p3, p4⟩ := cellsE (HR.out.below hb (Nat.le_refl _)) hlt
            obtain ⟨rfl, rfl⟩ : b1 = b3 ∧ o1 = o3 := by injection eB with e; injection e with e1 e2; exact ⟨e1, e2⟩
            obtain ⟨x1, x2, x3, x4, x5⟩ := sv_at HS.out (show m0 < n by omega)
            obtain ⟨y1, y2, y3, y4, y5⟩ := sv_at HS.out hlt
            have tw0 : ∀ w, Calls Tryd.prog 84 _ w fun e w' => e = .returned (.bool (twK zs ww r m0 k)) ∧ Below w.heap.size w w' := fun w => twin13 ww r (fld 5 zs m0 0) (fld 5 zs m0 1) (fld 5 zs m0 2) (fld 5 zs m0 3) (fld 5 zs m0 4) (fld 5 zs k 0) (fld 5 zs k 1) (fld 5 zs k 2) (fld 5 zs k 3) (fld 5 zs k 4) w ⟨x1, y1⟩ ⟨x4, y4⟩ ⟨x5, y5⟩
            have T1 := Lib.hid (fun w d0 os => Calls.regrown_of (tw0 (Sort.grow (redrawn w d0) os)))
            have HB := Lib.hid hb
            have HGr := Lib.hid hG
            have QC := Lib.hid qc
            have HOB := Lib.hid hob
            have HGB := Lib.hid hgb
            clear tw0 eA eB x1 x2 x3 x4 x5 y1 y2 y3 y4 y5 hb hG qc hob hgb
            generalize htb : twK zs ww r m0 k = tb at *
            generalize fld 5 zs m0 0 = s0 at *
            generalize fld 5 zs m0 1 = s1 at *
            generalize fld 5 zs m0 2 = s2 at *
            generalize fld 5 zs m0 3 = s3 at *
            generalize fld 5 zs m0 4 = s4 at *
            generalize fld 5 zs k 0 = u0 at *
            generalize fld 5 zs k 1 = u1 at *
            generalize fld 5 zs k 2 = u2 at *
            generalize fld 5 zs k 3 = u3 at *
            generalize fld 5 zs k 4 = u4 at *
            have Q0 := q0
            clear htb Q0
            go_wp2_with fail
            have q0' := fun d0 os => cell_regrown q0 d0 os
            have q1' := fun d0 os => cell_regrown q1 d0 os
            have a0' := fun d0 os => cell_regrown a0 d0 os
            have a1' := fun d0 os => cell_regrown a1 d0 os
            have a2' := fun d0 os => cell_regrown a2 d0 os
            have a3' := fun d0 os => cell_regrown a3 d0 os
            have a4' := fun d0 os => cell_regrown a4 d0 os
            have p0' := fun d0 os => cell_regrown p0 d0 os
            have p1' := fun d0 os => cell_regrown p1 d0 os
            have p2' := fun d0 os => cell_regrown p2 d0 os
            have p3' := fun d0 os => cell_regrown p3 d0 os
            have p4' := fun d0 os => cell_regrown p4 d0 os
            have Q0w := Lib.hid q0
            clear q0 q1 a0 a1 a2 a3 a4 p0 p1 p2 p3 p4
            refine wp_region_quiet_below (by kernel_rfl) (by kernel_rfl) ?_
            repeat (
              with_reducible refine wpQuiet_step (fun K hK => ?_)
              go_simp
              first
                | (refine hK _ ?_; clear hK K)
                | (apply Exists.intro
                   refine ⟨fun _ => ?_, hK _ ?_⟩
                   (first
                     | (go_at_call 84; with_reducible exact T1.out _ _ _))
                   clear hK K))
            with_reducible refine wpQuiet_nil ?_
            intro _ hw'
            obtain ⟨⟨dq, osq⟩, hw''⟩ := hw'
            subst hw''
            have hbl := below_regrown wr dq osq
            clear q0' q1' a0' a1' a2' a3' a4' p0' p1' p2' p3' p4' T1
            generalize Sort.grow (redrawn wr dq) osq = W3 at *
            have HB3 := Lib.hid (HB.out.trans (hbl.mono HB.out.size))
            have HG3 := Lib.hid (HGr.out.below hbl)
            have Q0 := Lib.hid ((hbl.cell (p := ⟨ob, g, none⟩) HOB.out).trans Q0w.out)
            have QC3 := Lib.hid (fun j m hm => (hbl.cell (p := ⟨gb, j, none⟩) HGB.out).trans (QC.out j m hm))
            have hob : ob < W3.heap.size := Nat.lt_of_lt_of_le HOB.out hbl.size
            have hgb : gb < W3.heap.size := Nat.lt_of_lt_of_le HGB.out hbl.size
            have HZ := Lib.hid (fun (W : World) (h : Below W3.heap.size W3 W) => HR.out.below (HB3.out.trans (h.mono HB3.out.size)) (Nat.le_refl _))
            clear QC Q0w HB HGr HOB HGB hbl
            have QC := QC3
            clear QC3
            go_wp2_with fail
            go_loopw [9, 11] (fun jv i wr => ∃ j : Nat, j ≤ ql ∧ i = .int .i64 j ∧ jv = .bool (tb && noB zs k (q.take j)) ∧ Below W3.heap.size W3 wr) (fun _ i _ => ql - (intOf i).toNat)
            case atStart => exact ⟨0, Nat.zero_le _, rfl, by rw [TZ.out], Below.refl _ _⟩
            case round =>
              obtain ⟨j, hj, rfl, rfl, hbq⟩ := hrel
              have HBq := Lib.hid hbq
              have q0 : wr.cell? ⟨ob, g, none⟩ = some (.slice (some ⟨gb, 0, none⟩) ql uc) := (hbq.cell (p := ⟨ob, g, none⟩) hob).trans Q0.out
              clear hbq
              by_cases hjl : j < ql
              · have hjl2 : (j : Int) < (ql : Int) := by omega
                obtain ⟨m, hm⟩ : ∃ m, q[j]? = some m := ⟨_, List.getElem?_eq_getElem (by rw [HQL.out]; exact hjl)⟩
                have hmk : m < k := HMK.out m (List.mem_of_getElem? hm)
                have hmn : (m : Int) < (n : Int) := by omega
                have hm0 : (0 : Int) ≤ (m : Int) := Int.natCast_nonneg _
                have q1 : wr.cell? ⟨gb, j, none⟩ = some (.int .i64 (m : Int)) := (HBq.out.cell (p := ⟨gb, j, none⟩) hgb).trans (QC.out j m hm)
                obtain ⟨b2, o2, eA, -, -, s1, -⟩ := cellsE (HZ.out wr HBq.out) (show m < n by omega)
                obtain ⟨rfl, rfl⟩ : b1 = b2 ∧ o1 = o2 := by injection eA with e; injection e with e1 e2; exact ⟨e1, e2⟩
                obtain ⟨b3, o3, eB, -, -, s2, -⟩ := cellsE (HZ.out wr HBq.out) hlt
                obtain ⟨rfl, rfl⟩ : b1 = b3 ∧ o1 = o3 := by injection eB with e; injection e with e1 e2; exact ⟨e1, e2⟩
                have HN := Lib.hid (noB_take (zs := zs) (k := k) hm)
                clear eA eB hm
                cases hc : (tb && noB zs k (q.take j))
                · have HT := Lib.hid (show (tb && noB zs k (q.take (j + 1))) = false by rw [HN.out, ← Bool.and_assoc, hc]; rfl)
                  have HRq := Lib.hid (True.intro)
                  clear hc HN
                  generalize fld 5 zs m 1 = x1 at *
                  generalize fld 5 zs k 1 = x2 at *
                  go_wp2_with fail
                  clear HRq
                  refine wp_region_quiet_lit (by kernel_rfl) (by kernel_rfl) ?_
                  repeat (
                    with_reducible refine wpQuiet_step (fun K hK => ?_)
                    go_simp
                    first
                      | (refine hK _ ?_; clear hK K))
                  with_reducible refine wpQuiet_nil ?_
                  intro _ hw'
                  obtain ⟨nq, hw''⟩ := hw'
                  subst hw''
                  have hbk := Lib.hid (aid.below_drewN HBq.out nq)
                  clear HBq
                  go_wp2_with fail
                  go_roundw
                  case rel => exact ⟨j + 1, by omega, by go_num, by rw [HT.out], hbk.out⟩
                  case measure => simp [intOf]; omega
                · by_cases he : fld 5 zs m 1 = fld 5 zs k 1
                  · have HT := Lib.hid (show (tb && noB zs k (q.take (j + 1))) = false by rw [HN.out, ← Bool.and_assoc, hc, decide_eq_false (fun h => h he)]; rfl)
                    have HRq := Lib.hid (True.intro)
                    clear hc HN
                    generalize fld 5 zs m 1 = x1 at *
                    generalize fld 5 zs k 1 = x2 at *
                    have ge : (x1 != x2) = false := by rw [he]; simp
                    clear he
                    go_wp2_with fail
                    clear HRq
                    refine wp_region_quiet_lit (by kernel_rfl) (by kernel_rfl) ?_
                    repeat (
                      with_reducible refine wpQuiet_step (fun K hK => ?_)
                      go_simp
                      first
                        | (refine hK _ ?_; clear hK K))
                    with_reducible refine wpQuiet_nil ?_
                    intro _ hw'
                    obtain ⟨nq, hw''⟩ := hw'
                    subst hw''
                    have hbk := Lib.hid (aid.below_drewN HBq.out nq)
                    clear HBq
                    go_wp2_with fail
                    go_roundw
                    case rel => exact ⟨j + 1, by omega, by go_num, by rw [HT.out], hbk.out⟩
                    case measure => simp [intOf]; omega
                  · have HT := Lib.hid (show (tb && noB zs k (q.take (j + 1))) = true by rw [HN.out, ← Bool.and_assoc, hc, decide_eq_true he]; rfl)
                    have HRq := Lib.hid (True.intro)
                    clear hc HN
                    generalize fld 5 zs m 1 = x1 at *
                    generalize fld 5 zs k 1 = x2 at *
                    have ge : (x1 != x2) = true := bne_iff_ne.mpr he
                    clear he
                    go_wp2_with fail
                    clear HRq
                    refine wp_region_quiet_lit (by kernel_rfl) (by kernel_rfl) ?_
                    repeat (
                      with_reducible refine wpQuiet_step (fun K hK => ?_)
                      go_simp
                      first
                        | (refine hK _ ?_; clear hK K))
                    with_reducible refine wpQuiet_nil ?_
                    intro _ hw'
                    obtain ⟨nq, hw''⟩ := hw'
                    subst hw''
                    have hbk := Lib.hid (aid.below_drewN HBq.out nq)
                    clear HBq
                    go_wp2_with fail
                    go_roundw
                    case rel => exact ⟨j + 1, by omega, by go_num, by rw [HT.out], hbk.out⟩
                    case measure => simp [intOf]; omega
              · obtain rfl : j = ql := by omega
                have HFq := Lib.hid (show (tb && noB zs k (q.take j)) = fitB zs ww r k q by rw [TL.out]; exact HFB.out)
                rw [HFq.out]
                clear TZ TL HFB HFq
                have HGw := Lib.hid (HG3.out.below HBq.out)
                have HBw := Lib.hid (HB3.out.trans (HBq.out.mono HB3.out.size))
                cases hf : fitB zs ww r k q
                · have HT := Lib.hid (show ∀ i q', i < g + 1 → G[i]? = some q' → fitB zs ww r k q' = false from fun i q' hi hq' => by
                    rcases Nat.lt_or_ge i g with h | h
                    · exact HNF.out i q' h hq'
                    · obtain rfl : i = g := by omega
                      have e := hq'.symm.trans HQ.out
                      injection e with e
                      rw [e]; exact hf)
                  clear hf HG3 HB3 HBq
                  have hg20 := HGL.out
                  go_wp2_with fail
                  go_roundw
                  case rel => exact ⟨false, g + 1, by omega, rfl, by go_num, HGw.out, HBw.out, fun _ => HT.out, fun h => by cases h⟩
                  case measure => simp [intOf]; omega
                · have HP := Lib.hid (pos_is HNF.out HQ.out hf)
                  obtain ⟨ob2, oc2, gb2, uc2, hv2, -, -, q02, fr2, hgb2, -, own2, hne⟩ := HGw.out.read HQ.out (by rw [HQL.out]; exact hql)
                  obtain rfl : ob = ob2 := by injection hv2 with e1 e2 e3; injection e1 with e1; injection e1
                  rw [HQL.out] at q02 own2
                  obtain ⟨rfl, rfl⟩ : gb = gb2 ∧ uc = uc2 := by
                    have e := q0.symm.trans q02
                    injection e with e
                    injection e with e1 e2 e3
                    injection e1 with e1
                    injection e1 with e1
                    exact ⟨e1, e3⟩
                  have obw := HBw.out.size
                  have hg20 := HGL.out
                  have A0 := (Below.refl wr.heap.size wr).alloc (Nat.le_refl _) (.cells #[.int .i64 (k : Int)] 3)
                  have OWN := Lib.hid (own2.alloc (.cells #[.int .i64 (k : Int)] 3))
                  have GA := Lib.hid (HGw.out.below A0)
                  have hobw : ob < wr.heap.size := World.block_lt_of_cell? _ _ q02
                  have CA := Lib.hid ((A0.cell (p := ⟨ob, g, none⟩) hobw).trans q02)
                  have FA := Lib.hid ((A0.frozen (p := ⟨ob, g, none⟩) hobw).trans fr2)
                  have BA := Lib.hid (HBw.out.trans (A0.mono obw))
                  have HNE2 := Lib.hid hne
                  have HV := Lib.hid (show Value.slice (some ⟨ob, 0, none⟩) gl c7 = .slice (some ⟨ob, 0, none⟩) G.length c7 by rw [HGE.out])
                  clear hf HG3 HB3 hv2 own2 hgb2 q02 fr2 A0 hne HBq
                  go_wp2_with (at_builtin; refine wpList_append_any rfl (.tmp 80) (.tmp 82) 26 rfl w.heap.size 3 iI (.int .i64 0) 1 8 Tryd.underlying26 hiI hzI0 hzI1 hzI2 rfl (by decide) _ j (rowS q) rfl OWN.out ⟨wr.heap.size, 0, none⟩ 1 1 [.int .i64 (k : Int)] rfl rfl (cell_one_new _ _ _) (own_.one_cell _ rfl) (by unfold maxLen; omega) (by omega) (by rw [World.size_alloc]; omega) ?_; intro v5 w5 o5 g5 n5; obtain ⟨A5, c5, rfl⟩ := own_sliceZ o5; have s5 := g5.cell CA.out (fun e => HNE2.out (by injection e)); have f5 := (World.frozen?_of_block (a := ⟨ob, g, none⟩) (g5.block ob (by rw [World.size_alloc]; omega) (fun e => HNE2.out (by injection e)))).trans FA.out)
                  have G5 := Lib.hid (GA.out.app (k := k) HQ.out HV.out CA.out g5 (by rw [HQL.out]; exact o5) n5)
                  have B5 := Lib.hid ((BA.out.grown g5 (by rw [World.size_alloc]; omega) (own_.row_ge OWN.out)).setCell (p := ⟨ob, g, none⟩) hBo (.slice A5 (j + 1) c5))
                  have HPT := Lib.hid (show GS w.heap.size (w5.setCell ⟨ob, g, none⟩ (.slice A5 (j + 1) c5)) (.slice (some ⟨ob, 0, none⟩) gl c7) (if true then put G (pos zs ww r k G) k else G) from by
                    rw [if_pos rfl, HP.out, put_old HQ.out]; exact G5.out)
                  clear s5 f5 o5 g5 n5 G5 GA CA FA BA OWN
                  go_wp2_with fail
                  go_roundw
                  case rel => exact ⟨true, g + 1, by omega, rfl, by go_num, HPT.out, B5.out, (fun h => by cases h), fun _ => by rw [HP.out]; exact hgl⟩
                  case measure => simp [intOf]; omega
          · obtain rfl : g = gl := by omega
            have HP := Lib.hid (show pos zs ww r k G = G.length from pos_end (fun i q h hq => HNF.out i q (by rw [HGE.out] at h; exact h) hq))
            obtain ⟨us, hus, hins⟩ := hG
            rw [List.length_map, HGE.out] at hus
            have hsz := hb.size
            have hub : us.length = g := by have := hus.1; omega
            have A0 := ((Below.refl wr.heap.size wr).alloc (Nat.le_refl _) (.cells #[.int .i64 (k : Int)] 3)).alloc (by rw [World.size_alloc]; omega) (.cells #[.slice (some ⟨wr.heap.size, 0, none⟩) 1 1] 26)
            have OWN := Lib.hid (own_.own_below hus A0)
            have HIN := Lib.hid (show wr.ownsRow w.heap.size 26 1 (.slice A7 g c7) G.length us ∧ Ins w.heap.size 3 1 wr us (G.map rowS) from ⟨by rw [HGE.out]; exact hus, hins⟩)
            have HA0 := Lib.hid A0
            have BA := Lib.hid (hb.trans (A0.mono hsz))
            have NW := Lib.hid (cell_one_new (wr.alloc (.cells #[.int .i64 (k : Int)] 3)) (.slice (some ⟨wr.heap.size, 0, none⟩) 1 1) 26)
            rw [World.size_alloc] at NW
            clear hus hins hb A0 HNF
            go_wp2_with (at_builtin; refine wpList_append_any rfl (.tmp 87) (.tmp 90) 82 rfl w.heap.size 26 iL (.slice none 0 0) 1 24 Tryd.underlying82 hiL hzL0 hzL1 hzL2 rfl (by decide) _ g us rfl OWN.out ⟨wr.heap.size + 1, 0, none⟩ 1 1 [.slice (some ⟨wr.heap.size, 0, none⟩) 1 1] rfl rfl NW.out (own_.one_cell _ rfl) (by unfold maxLen; have := HGL.out; omega) (by have := HGL.out; omega) (by rw [World.size_alloc, World.size_alloc]; omega) ?_; intro v5 w5 o5 g5 n5; obtain ⟨A5, c5, rfl⟩ := own_sliceZ o5)
            have G5 := Lib.hid (GS.push HIN.out.1 HIN.out.2 HA0.out (Nat.le_refl _) (own_one hsz k _) g5 (by rw [HGE.out]; exact o5))
            have B5 := Lib.hid (BA.out.grown g5 (by rw [World.size_alloc, World.size_alloc]; omega) (own_.row_ge OWN.out))
            have HF := Lib.hid (show GS w.heap.size w5 (.slice A5 (g + 1) c5) (grp zs ww r (k + 1)) by rw [HGK.out, HP.out, put_end]; exact G5.out)
            clear o5 g5 n5 G5 OWN HIN HA0 BA NW
            go_wp2_with fail
            go_roundw
            case rel => exact ⟨k + 1, by omega, by go_num, HF.out, B5.out⟩
            case measure => simp [intOf]; omega
        · have HF := Lib.hid (show GS w.heap.size wr (.slice A7 gl c7) (grp zs ww r (k + 1)) by rw [HGK.out]; exact hG)
          have HB := Lib.hid hb
          clear hG hb hnf hjp
          by_cases hgl : g < gl
          · have hgl2 : (g : Int) < (gl : Int) := by omega
            go_wp2_with fail
            go_roundw
            case rel => exact ⟨k + 1, by omega, by go_num, HF.out, HB.out⟩
            case measure => simp [intOf]; omega
          · have hgl2 : ¬ (g : Int) < (gl : Int) := by omega
            go_wp2_with fail
            go_roundw
            case rel => exact ⟨k + 1, by omega, by go_num, HF.out, HB.out⟩
            case measure => simp [intOf]; omega
    · obtain rfl : k = n := by omega
      obtain ⟨A7, c7, rfl⟩ := hG.slice
      have HF := Lib.hid hG
      have HB := Lib.hid hb
      clear hG hb
      generalize (grp zs ww r k).length = gl at *
      go_wp2_with fail
      go_ret
      exact ⟨_, rfl, HF.out, HB.out⟩
end Go.Proofs.YtdjcbfeilkepmaaDoor.pltg
