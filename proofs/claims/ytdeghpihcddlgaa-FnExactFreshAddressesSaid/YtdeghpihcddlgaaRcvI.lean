/- FreshAddresses of spec and impl. -/
import Derived.Test.YtdeghpihcddlgaaRcvH
import Derived.Laws.AppendOwn
import Derived.Laws.MakeOwn
namespace Go.Proofs.Ytdeghpihcddlgaa.rcvi
open Go.RowKit Go.Proofs.Ytdeghpihcddlgaa.pos Go.Proofs.Ytdeghpihcddlgaa.rcv Go.Proofs.Ytdeghpihcddlgaa.rcvm Go.Proofs.Ytdeghpihcddlgaa.ats Go.Proofs.Ytdeghpihcddlgaa.ints Go.Proofs.Ytdeghpihcddlgaa.lst Go.Proofs.Ytdeghpihcddlgaa.rcvh

/-- A receiver's box stays, where a row above it is appended to. -/
theorem at_app {T : TypeId} {cs : Array Value} {w W W' : World} {o : Obj} {e s n : Nat} {v : Value} {xs : List Value} (h : ats.AtS T cs w W w.heap.size) (hown : W.ownsRow (w.heap.size + 1) e s v n xs) (hg : (W.alloc o).grownBy W' v.ownBlock) : ats.AtS T cs w W' w.heap.size := by
  have h1 := h.alloc o
  exact ⟨h1.1.grown hg h1.1.size (fun g e => Nat.le_trans (Nat.le_succ _) (own_.row_ge hown g e)), h.2.1, Nat.lt_of_lt_of_le h1.2.2.1 hg.size, (hg.block _ h1.2.2.1 (fun e => by have := own_.row_ge hown _ e.symm; omega)).trans h1.2.2.2⟩
theorem own_nil (w : World) (B e s : Nat) : w.ownsRow B e s (.slice none 0 0) 0 [] := ⟨by simp, .inl ⟨rfl, rfl⟩⟩

set_option maxRecDepth 100000 in
set_option maxHeartbeats 4000000 in
theorem specFresh (m : Int) (hs : List Hd) (A : Option Addr) (c : Nat) (w : World) (hn : hs.length ≤ 1048577) (h : RdH w w.heap.size A hs) :
    Calls Try.prog 50 #[.agg #[.int .i64 m, .slice A hs.length c]] w fun e w' => ∃ v, e = .returned (.tuple #[v, .bool (vB m hs)]) ∧ w'.ownsRow w.heap.size 3 1 v (faV m hs).length (cellsI (faV m hs)) ∧ Below w.heap.size w w' := by
  have B0 := Lib.hid ((newS 46 #[.int .i64 m, .slice A hs.length c] w).alloc (.cells #[] 3))
  have O0 := Lib.hid (own_emptyZ (w.alloc (.cells #[.int .i64 m, .slice A hs.length c] 46)) 3 1)
  have HR := Lib.hid (fun (wr : World) (hb : Below w.heap.size w wr) => h.below hb (Nat.le_refl _))
  have GD := Lib.hid (fun W (hb : Below w.heap.size w W) => rcva.good9 m hs A c W hn (h.next hb))
  rw [World.size_alloc] at O0
  obtain ⟨i0, hi, hz0, hz1, hz2⟩ := info_parts infoI
  cases hv : vB m hs
  · have HF := Lib.hid (show faV m hs = [] by unfold faV; rw [hv]; rfl)
    simp only [hv] at GD
    generalize hs.length = n at *
    clear h hv HR
    go_enter Try.func50, Try.ntmps50
    go_wp2_with fail
    refine (GD.out _ B0.out.1).mono ?_
    rintro e V2 ⟨rfl, hb2⟩
    have B2 := Lib.hid (B0.out.old hb2)
    have O2 := Lib.hid (own_.own_below O0.out hb2)
    clear B0 O0 hb2
    go_wp2_with fail
    go_ret2
    exact ⟨_, rfl, by rw [HF.out]; exact own_.own_base O2.out (Nat.le_succ _), B2.out.1⟩
  · have HF := Lib.hid (show faV m hs = faL m hs by unfold faV; rw [hv]; rfl)
    have ONE := Lib.hid (fun k (hk : k < hs.length) => one_at hv hk)
    have H6 := Lib.hid (v_parts hv).2.1
    have ST := Lib.hid (fun k (hk : k < hs.length) => fa_step (m := m) hk)
    have LE := Lib.hid (fun k => fa_length m (hs.take k))
    have S0 := Lib.hid (show faL m (hs.take 0) = [] by simp [faL])
    have SA := Lib.hid (show faL m (hs.take hs.length) = faL m hs by rw [List.take_length])
    simp only [hv] at GD
    generalize hN : hs.length = n at *
    have HN := Lib.hid hN
    have h6 := H6.out
    clear h hv hN
    go_enter Try.func50, Try.ntmps50
    go_wp2_with fail
    refine (GD.out _ B0.out.1).mono ?_
    rintro e V2 ⟨rfl, hb2⟩
    have B2 := Lib.hid (B0.out.old hb2)
    have O2 := Lib.hid (own_.own_below O0.out hb2)
    clear B0 O0 hb2 GD
    go_wp2_with fail
    go_loopw [4, 5] (fun v i wr => ∃ k : Nat, k ≤ n ∧ i = .int .i64 k ∧ wr.ownsRow (w.heap.size + 1) 3 1 v (faL m (hs.take k)).length (cellsI (faL m (hs.take k))) ∧ AtS 46 #[.int .i64 m, .slice A n c] w wr w.heap.size) (fun _ i _ => n - (intOf i).toNat)
    case atStart => exact ⟨0, Nat.zero_le _, rfl, by rw [S0.out]; exact O2.out, B2.out⟩
    case round =>
      obtain ⟨k, hk, rfl, hown, hB⟩ := hrel
      have BR := Lib.hid hB
      have HB := Lib.hid hB.1
      have HO := Lib.hid hown
      clear hB hown B2 O2
      have a1 : wr.cell? ⟨w.heap.size, 1, none⟩ = some (.slice A n c) := BR.out.cell 1
      by_cases hlt : k < n
      · obtain ⟨b, o, rfl, hbl, c0, c1, c2, c3, c4, c5, c6, c7, c8, c9⟩ := (HR.out wr HB.out).cells (k := k) (by rw [HN.out]; exact hlt)
        have hlt2 : (k : Int) < (n : Int) := by omega
        have hbV : b < wr.heap.size := Nat.lt_of_lt_of_le hbl HB.out.size
        obtain ⟨m0, z1, z2⟩ := ONE.out k hlt
        have HS := Lib.hid (ST.out k hlt)
        have HL := Lib.hid (LE.out k)
        generalize hx hs k = z at *
        have PO := Lib.hid (fun w => position9 m (some ⟨b, o, none⟩) n c z m0 z1 z2 w)
        clear m0 z1 z2
        generalize posX m z = X at *
        generalize posY m z = Y at *
        generalize posB m z = O at *
        go_upto_region 7 with fail
        have CS51 := Lib.hid (show ∀ WZ : World, Below wr.heap.size wr WZ → WZ.cell? ⟨w.heap.size, 0, none⟩ = some (.int .i64 m) ∧ WZ.cell? ⟨w.heap.size, 1, none⟩ = some (.slice (some ⟨b, o, none⟩) n c) ∧ WZ.cell? ⟨b, o + k * 10, none⟩ = some (.int .i64 z.ad) ∧ WZ.cell? ⟨b, o + k * 10 + 1, none⟩ = some (.bool z.eo) ∧ WZ.cell? ⟨b, o + k * 10 + 2, none⟩ = some (.int .i64 z.ea) ∧ WZ.cell? ⟨b, o + k * 10 + 3, none⟩ = some (.int .i64 z.eb) ∧ WZ.cell? ⟨b, o + k * 10 + 4, none⟩ = some (.int .i64 z.et) ∧ WZ.cell? ⟨b, o + k * 10 + 5, none⟩ = some (.bool z.oo) ∧ WZ.cell? ⟨b, o + k * 10 + 6, none⟩ = some (.int .i64 z.oa) ∧ WZ.cell? ⟨b, o + k * 10 + 7, none⟩ = some (.int .i64 z.ob) ∧ WZ.cell? ⟨b, o + k * 10 + 8, none⟩ = some (.int .i64 z.ot) ∧ WZ.cell? ⟨b, o + k * 10 + 9, none⟩ = some (.int .i64 z.fr) from fun WZ hz => And.intro (posx.at_cell (BR.out.old hz) 0 (.int .i64 m) rfl) (And.intro (posx.at_cell (BR.out.old hz) 1 (.slice (some ⟨b, o, none⟩) n c) rfl) (And.intro ((hz.cell (p := ⟨b, o + k * 10, none⟩) hbV).trans c0) (And.intro ((hz.cell (p := ⟨b, o + k * 10 + 1, none⟩) hbV).trans c1) (And.intro ((hz.cell (p := ⟨b, o + k * 10 + 2, none⟩) hbV).trans c2) (And.intro ((hz.cell (p := ⟨b, o + k * 10 + 3, none⟩) hbV).trans c3) (And.intro ((hz.cell (p := ⟨b, o + k * 10 + 4, none⟩) hbV).trans c4) (And.intro ((hz.cell (p := ⟨b, o + k * 10 + 5, none⟩) hbV).trans c5) (And.intro ((hz.cell (p := ⟨b, o + k * 10 + 6, none⟩) hbV).trans c6) (And.intro ((hz.cell (p := ⟨b, o + k * 10 + 7, none⟩) hbV).trans c7) (And.intro ((hz.cell (p := ⟨b, o + k * 10 + 8, none⟩) hbV).trans c8) ((hz.cell (p := ⟨b, o + k * 10 + 9, none⟩) hbV).trans c9))))))))))))
        go_cut [6, 7] from 20 to 29 (fun p51 q510 wz => ∃ b, p51 = .pointer (some ⟨b, 0, none⟩) ∧ q510 = .bool O ∧ AtS 25 #[.int .i64 X, .int .i64 Y] wr wz b)
        case first =>
          go_region_held3 (fun w' => w'.cell? ⟨w.heap.size, 0, none⟩ = some (.int .i64 m) ∧ w'.cell? ⟨w.heap.size, 1, none⟩ = some (.slice (some ⟨b, o, none⟩) n c) ∧ w'.cell? ⟨b, o + k * 10, none⟩ = some (.int .i64 z.ad) ∧ w'.cell? ⟨b, o + k * 10 + 1, none⟩ = some (.bool z.eo) ∧ w'.cell? ⟨b, o + k * 10 + 2, none⟩ = some (.int .i64 z.ea) ∧ w'.cell? ⟨b, o + k * 10 + 3, none⟩ = some (.int .i64 z.eb) ∧ w'.cell? ⟨b, o + k * 10 + 4, none⟩ = some (.int .i64 z.et) ∧ w'.cell? ⟨b, o + k * 10 + 5, none⟩ = some (.bool z.oo) ∧ w'.cell? ⟨b, o + k * 10 + 6, none⟩ = some (.int .i64 z.oa) ∧ w'.cell? ⟨b, o + k * 10 + 7, none⟩ = some (.int .i64 z.ob) ∧ w'.cell? ⟨b, o + k * 10 + 8, none⟩ = some (.int .i64 z.ot) ∧ w'.cell? ⟨b, o + k * 10 + 9, none⟩ = some (.int .i64 z.fr)) (first
            | exact CS51.out _ ((Below.refl wr.heap.size wr).drew)
            | exact CS51.out _ (by assumption)
            | exact CS51.out _ (((Below.refl wr.heap.size wr).alloc (Nat.le_refl _) (.cells #[.int .i64 0, .int .i64 0] 25)).drew)
            | exact CS51.out _ (Below.alloc (by assumption) (Below.size (by assumption)) (.cells #[.int .i64 0, .int .i64 0] 25))
            | exact CS51.out _ (AtS.set (AtS.set ((by assumption : AtS 25 #[.int .i64 0, .int .i64 0] wr _ _)) 0 (.int .i64 X)) 1 (.int .i64 Y)).1
            | exact CS51.out _ (AtS.set (AtS.set (AtS.drew (newS 25 #[.int .i64 0, .int .i64 0] wr)) 0 (.int .i64 X)) 1 (.int .i64 Y)).1
            | exact CS51.out _ (AtS.set (AtS.set (posx.at_next 25 #[.int .i64 0, .int .i64 0] (by assumption)) 0 (.int .i64 X)) 1 (.int .i64 Y)).1
            | exact CS51.out _ (Below.alloc (by assumption) (Below.size (by assumption)) (.cells #[.int .i64 X, .int .i64 Y] 25))
            | exact CS51.out _ (AtS.set (AtS.set (newS 25 #[.int .i64 0, .int .i64 0] wr) 0 (.int .i64 X)) 1 (.int .i64 Y)).drew.1
            | go_keep) (first
            | (go_at_call 108; (with_reducible refine (PO.out _).mono ?_); rintro e w' ⟨rfl, hb⟩
               have hbl := posx.bl_next (V := wr) (by first | exact (Below.refl wr.heap.size wr).drew | assumption | exact ((Below.refl wr.heap.size wr).alloc (Nat.le_refl _) (.cells #[.int .i64 0, .int .i64 0] 25)).drew | exact Below.alloc (by assumption) (Below.size (by assumption)) (.cells #[.int .i64 0, .int .i64 0] 25)) hb
               first
                 | (have hnu : AtS 25 #[.int .i64 0, .int .i64 0] wr _ _ := AtS.old ((by assumption : AtS 25 #[.int .i64 0, .int .i64 0] wr _ _)) hb; have z0 := posx.at_cell hnu 0 (.int .i64 0) rfl; have y0 := AtS.frozen hnu 0; have z1 := posx.at_cell hnu 1 (.int .i64 0) rfl; have y1 := AtS.frozen hnu 1; clear hb)
                 | (have hnu : AtS 25 #[.int .i64 0, .int .i64 0] wr _ _ := AtS.old (AtS.drew (newS 25 #[.int .i64 0, .int .i64 0] wr)) hb; have z0 := posx.at_cell hnu 0 (.int .i64 0) rfl; have y0 := AtS.frozen hnu 0; have z1 := posx.at_cell hnu 1 (.int .i64 0) rfl; have y1 := AtS.frozen hnu 1; clear hb)
                 | (have hnu : AtS 25 #[.int .i64 0, .int .i64 0] wr _ _ := AtS.old (posx.at_next 25 #[.int .i64 0, .int .i64 0] (by assumption)) hb; have z0 := posx.at_cell hnu 0 (.int .i64 0) rfl; have y0 := AtS.frozen hnu 0; have z1 := posx.at_cell hnu 1 (.int .i64 0) rfl; have y1 := AtS.frozen hnu 1; clear hb)
                 | clear hb))
          all_goals
            go_wp2_with fail
            go_meet
            first
              | exact ⟨_, rfl, rfl, AtS.set (AtS.set ((by assumption : AtS 25 #[.int .i64 0, .int .i64 0] wr _ _)) 0 (.int .i64 X)) 1 (.int .i64 Y)⟩
              | exact ⟨_, rfl, rfl, AtS.set (AtS.set (AtS.drew (newS 25 #[.int .i64 0, .int .i64 0] wr)) 0 (.int .i64 X)) 1 (.int .i64 Y)⟩
              | exact ⟨_, rfl, rfl, AtS.set (AtS.set (posx.at_next 25 #[.int .i64 0, .int .i64 0] (by assumption)) 0 (.int .i64 X)) 1 (.int .i64 Y)⟩
              | exact ⟨_, rfl, rfl, posx.at_next 25 #[.int .i64 X, .int .i64 Y] (by assumption)⟩
              | exact ⟨_, rfl, rfl, (AtS.set (AtS.set (newS 25 #[.int .i64 0, .int .i64 0] wr) 0 (.int .i64 X)) 1 (.int .i64 Y)).drew⟩
        case rest =>
          obtain ⟨g51, rfl, rfl, hg51⟩ := hcut
          have HB51 := Lib.hid (HB.out.trans (hg51.1.mono HB.out.size))
          have B51 := Lib.hid (BR.out.old hg51.1)
          have HO2 := Lib.hid (own_.own_below HO.out hg51.1)
          have RW := Lib.hid (hg51.1)
          have P51 := Lib.hid (show AtS 25 #[.int .i64 X, .int .i64 Y] w wc g51 from ⟨HB51.out, Nat.le_trans HB.out.size hg51.2.1, hg51.2.2⟩)
          clear HB BR CS51
          generalize wc = V52 at *
          have hsz := HB51.out.size
          cases O
          · clear c0 c1 c2 c3 c4 c5 c6 c7 c8 c9 a1 HO PO
            have h0 : faL m (hs.take (k + 1)) = faL m (hs.take k) := by rw [HS.out]; simp
            have H0 := Lib.hid h0
            clear h0
            go_wp2_with fail
            go_roundw
            case rel => exact ⟨k + 1, by omega, by go_num, by rw [H0.out]; exact HO2.out, B51.out⟩
            case measure => simp [intOf]; omega
          · have p0 : V52.cell? ⟨b, o + k * 10, none⟩ = some (.int .i64 z.ad) := (RW.out.cell (p := ⟨b, o + k * 10, none⟩) hbV).trans c0
            have a1 : V52.cell? ⟨w.heap.size, 1, none⟩ = some (.slice (some ⟨b, o, none⟩) n c) := B51.out.cell 1
            have hown := HO2.out
            have hlen := HL.out
            have h1 : faL m (hs.take (k + 1)) = faL m (hs.take k) ++ [z.ad] := by rw [HS.out]; simp
            have H1 := Lib.hid h1
            have hk2 : (hs.take k).length ≤ 6 := by rw [List.length_take, HN.out]; omega
            clear h1 HO PO c0 c1 c2 c3 c4 c5 c6 c7 c8 c9
            generalize z.ad = a at *
            generalize faL m (hs.take k) = fa at *
            go_wp2_with (at_builtin; refine wpList_append_own _ rfl (.tmp 31) (.tmp 38) 75 rfl (w.heap.size + 1) 3 i0 (.int .i64 0) 1 8 Try.underlying75 hi hz0 hz1 hz2 rfl (by decide) _ fa.length (cellsI fa) rfl (hown.alloc _) ⟨V52.heap.size, 0, none⟩ 1 1 [.int .i64 a] rfl rfl (cells_new _ _ #[.int .i64 a]) (own_.one_cell _ rfl) (by unfold maxLen; omega) (by omega) (by have := B51.out.2.2.1; simp; omega) ?_; intro v' w3 hown' hgrow hnil)
            have HO3 := Lib.hid (own_growI hown')
            have BR3 := Lib.hid (at_app B51.out hown hgrow)
            clear hown' hgrow hnil hown p0 a1
            go_roundw
            case rel => exact ⟨k + 1, by omega, by go_num, by rw [H1.out]; exact HO3.out, BR3.out⟩
            case measure => simp [intOf]; omega
      · obtain rfl : k = n := by omega
        have HF2 := Lib.hid (show faV m hs = faL m (hs.take k) by rw [HF.out, SA.out])
        go_wp2_with fail
        go_ret2
        exact ⟨_, rfl, by rw [HF2.out]; exact own_.own_base HO.out (Nat.le_succ _), HB.out⟩

set_option maxRecDepth 100000 in
set_option maxHeartbeats 4000000 in
theorem implFresh (m : Int) (hs : List Hd) (A : Option Addr) (c : Nat) (w : World) (hn : hs.length ≤ 1048577) (h : RdH w w.heap.size A hs) :
    Calls Try.prog 51 #[.agg #[.int .i64 m, .slice A hs.length c]] w fun e w' => ∃ v, e = .returned (.tuple #[v, .bool (vB m hs)]) ∧ w'.ownsRow w.heap.size 3 1 v (faV m hs).length (cellsI (faV m hs)) ∧ Below w.heap.size w w' := by
  have B0 := Lib.hid (newS 46 #[.int .i64 m, .slice A hs.length c] w)
  have HR := Lib.hid (fun (wr : World) (hb : Below w.heap.size w wr) => h.below hb (Nat.le_refl _))
  have GD := Lib.hid (fun W (hb : Below w.heap.size w W) => rcvb.isValidReceiver m hs A c W hn (h.next hb))
  obtain ⟨i0, hi, hz0, hz1, hz2⟩ := info_parts infoI
  cases hv : vB m hs
  · have HF := Lib.hid (show faV m hs = [] by unfold faV; rw [hv]; rfl)
    simp only [hv] at GD
    generalize hs.length = n at *
    clear h hv HR
    go_enter Try.func51, Try.ntmps51
    go_wp2_with fail
    refine (GD.out _ B0.out.1).mono ?_
    rintro e V2 ⟨rfl, hb2⟩
    have B2 := Lib.hid (B0.out.old hb2)
    clear B0 hb2
    go_wp2_with fail
    go_ret2
    exact ⟨_, rfl, by rw [HF.out]; exact own_nil _ _ _ _, B2.out.1⟩
  · have HF := Lib.hid (show faV m hs = faL m hs by unfold faV; rw [hv]; rfl)
    have ONE := Lib.hid (fun k (hk : k < hs.length) => one_at hv hk)
    have H6 := Lib.hid (v_parts hv).2.1
    have ST := Lib.hid (fun k (hk : k < hs.length) => fa_step (m := m) hk)
    have LE := Lib.hid (fun k => fa_length m (hs.take k))
    have S0 := Lib.hid (show faL m (hs.take 0) = [] by simp [faL])
    have SA := Lib.hid (show faL m (hs.take hs.length) = faL m hs by rw [List.take_length])
    simp only [hv] at GD
    generalize hN : hs.length = n at *
    have HN := Lib.hid hN
    have h6 := H6.out
    clear h hv hN
    go_enter Try.func51, Try.ntmps51
    go_wp2_with fail
    refine (GD.out _ B0.out.1).mono ?_
    rintro e V2 ⟨rfl, hb2⟩
    have B2 := Lib.hid (B0.out.old hb2)
    clear B0 hb2 GD
    have a1 : V2.cell? ⟨w.heap.size, 1, none⟩ = some (.slice A n c) := B2.out.cell 1
    go_wp2_with fail
    clear a1
    go_loopw [4, 15] (fun v i wr => ∃ k : Nat, k ≤ n ∧ i = .int .i64 k ∧ wr.ownsRow (w.heap.size + 1) 3 1 v (faL m (hs.take k)).length (cellsI (faL m (hs.take k))) ∧ AtS 46 #[.int .i64 m, .slice A n c] w wr w.heap.size) (fun _ i _ => n - (intOf i).toNat)
    case atStart => exact ⟨0, Nat.zero_le _, rfl, by rw [S0.out]; exact own_nil _ _ _ _, B2.out⟩
    case round =>
      obtain ⟨k, hk, rfl, hown, hB⟩ := hrel
      have BR := Lib.hid hB
      have HB := Lib.hid hB.1
      have HO := Lib.hid hown
      clear hB hown B2
      by_cases hlt : k < n
      · obtain ⟨b, o, rfl, hbl, c0, c1, c2, c3, c4, c5, c6, c7, c8, c9⟩ := (HR.out wr HB.out).cells (k := k) (by rw [HN.out]; exact hlt)
        have hlt2 : (k : Int) < (n : Int) := by omega
        obtain ⟨m0, z1, z2⟩ := ONE.out k hlt
        have HS := Lib.hid (ST.out k hlt)
        have HL := Lib.hid (LE.out k)
        generalize hx hs k = z at *
        have PO := Lib.hid (fun w => positionBy z m m0 z1 z2 w)
        clear m0 z1 z2
        generalize posX m z = X at *
        generalize posY m z = Y at *
        generalize posB m z = O at *
        have BH := Lib.hid (BR.out.next 54 #[.int .i64 z.ad, .bool z.eo, .int .i64 z.ea, .int .i64 z.eb, .int .i64 z.et, .bool z.oo, .int .i64 z.oa, .int .i64 z.ob, .int .i64 z.ot, .int .i64 z.fr])
        have BA := Lib.hid (BR.out.alloc (.cells #[.int .i64 z.ad, .bool z.eo, .int .i64 z.ea, .int .i64 z.eb, .int .i64 z.et, .bool z.oo, .int .i64 z.oa, .int .i64 z.ob, .int .i64 z.ot, .int .i64 z.fr] 54))
        have HO1 := Lib.hid (HO.out.alloc (.cells #[.int .i64 z.ad, .bool z.eo, .int .i64 z.ea, .int .i64 z.eb, .int .i64 z.et, .bool z.oo, .int .i64 z.oa, .int .i64 z.ob, .int .i64 z.ot, .int .i64 z.fr] 54))
        clear BR HO
        go_upto_region 7 with fail
        clear c0 c1 c2 c3 c4 c5 c6 c7 c8 c9
        generalize wr.alloc (.cells #[.int .i64 z.ad, .bool z.eo, .int .i64 z.ea, .int .i64 z.eb, .int .i64 z.et, .bool z.oo, .int .i64 z.oa, .int .i64 z.ob, .int .i64 z.ot, .int .i64 z.fr] 54) = V at *
        generalize wr.heap.size = g at *
        obtain ⟨d0, d1, d2, d3, d4, d5, d6, d7, d8, d9⟩ := ten BH.out
        have v0 : V.cell? ⟨w.heap.size, 0, none⟩ = some (.int .i64 m) := BA.out.cell 0
        go_wp2_with fail
        refine (PO.out _).mono ?_
        rintro e V3 ⟨rfl, hb3⟩
        have BV := Lib.hid ((BA.out.old hb3).alloc (.cells #[.int .i64 X, .int .i64 Y] 25))
        have BW := Lib.hid ((BH.out.old hb3).alloc (.cells #[.int .i64 X, .int .i64 Y] 25))
        have HO2 := Lib.hid ((own_.own_below HO1.out hb3).alloc (.cells #[.int .i64 X, .int .i64 Y] 25))
        clear d0 d1 d2 d3 d4 d5 d6 d7 d8 d9 v0 BA BH hb3 PO HO1
        go_upto_region 8 with fail
        generalize V3.alloc (.cells #[.int .i64 X, .int .i64 Y] 25) = V4 at *
        cases O
        · have H0 := Lib.hid (show faL m (hs.take (k + 1)) = faL m (hs.take k) by rw [HS.out]; simp)
          go_wp2_with fail
          go_roundw
          case rel => exact ⟨k + 1, by omega, by go_num, by rw [H0.out]; exact HO2.out, BV.out⟩
          case measure => simp [intOf]; omega
        · have d0 : V4.cell? ⟨g, 0, none⟩ = some (.int .i64 z.ad) := BW.out.cell 0
          have hown := HO2.out
          have hlen := HL.out
          have H1 := Lib.hid (show faL m (hs.take (k + 1)) = faL m (hs.take k) ++ [z.ad] by rw [HS.out]; simp)
          have hk2 : (hs.take k).length ≤ 6 := by rw [List.length_take, HN.out]; omega
          generalize z.ad = a at *
          generalize faL m (hs.take k) = fa at *
          go_wp2_with (at_builtin; refine wpList_append_own _ rfl (.tmp 27) (.tmp 30) 75 rfl (w.heap.size + 1) 3 i0 (.int .i64 0) 1 8 Try.underlying75 hi hz0 hz1 hz2 rfl (by decide) _ fa.length (cellsI fa) rfl (hown.alloc _) ⟨V4.heap.size, 0, none⟩ 1 1 [.int .i64 a] rfl rfl (cells_new _ _ #[.int .i64 a]) (own_.one_cell _ rfl) (by unfold maxLen; omega) (by omega) (by have := BV.out.2.2.1; simp; omega) ?_; intro v' w3 hown' hgrow hnil)
          have HO3 := Lib.hid (own_growI hown')
          have BR3 := Lib.hid (at_app BV.out hown hgrow)
          clear hown' hgrow hnil hown d0
          go_roundw
          case rel => exact ⟨k + 1, by omega, by go_num, by rw [H1.out]; exact HO3.out, BR3.out⟩
          case measure => simp [intOf]; omega
      · obtain rfl : k = n := by omega
        have HF2 := Lib.hid (show faV m hs = faL m (hs.take k) by rw [HF.out, SA.out])
        go_wp2_with fail
        go_ret2
        exact ⟨_, rfl, by rw [HF2.out]; exact own_.own_base HO.out (Nat.le_succ _), HB.out⟩
end Go.Proofs.Ytdeghpihcddlgaa.rcvi
