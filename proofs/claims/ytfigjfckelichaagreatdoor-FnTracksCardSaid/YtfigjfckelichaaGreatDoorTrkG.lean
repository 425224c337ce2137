/- impl's changeTrack, HitTrack, MissTrack, ScanTracks. -/
import Derived.Test.YtfigjfckelichaaGreatDoorTrkF
namespace Go.Proofs.YtfigjfckelichaaGreatDoor.trkg
open Go.RowKit Go.Proofs.YtfigjfckelichaaGreatDoor.ints Go.Proofs.YtfigjfckelichaaGreatDoor.lst Go.Proofs.YtfigjfckelichaaGreatDoor.in_ Go.Proofs.YtfigjfckelichaaGreatDoor.ats Go.Proofs.YtfigjfckelichaaGreatDoor.pos Go.Proofs.YtfigjfckelichaaGreatDoor.trk Go.Proofs.YtfigjfckelichaaGreatDoor.trke Go.Proofs.YtfigjfckelichaaGreatDoor.trki Go.Proofs.YtfigjfckelichaaGreatDoor.trkv Go.Proofs.YtfigjfckelichaaGreatDoor.trkw Go.Proofs.YtfigjfckelichaaGreatDoor.trkm Go.Proofs.YtfigjfckelichaaGreatDoor.trkd Go.Proofs.YtfigjfckelichaaGreatDoor.trkf Go.Proofs.YtfigjfckelichaaGreatDoor.intc Go.Proofs.YtfigjfckelichaaGreatDoor.rws Go.Proofs.YtfigjfckelichaaGreatDoor.era

theorem ha_one (zs : List Int) (n : Nat) (d : Int) : haB zs n [d] 1 = (tvB zs n && hasId zs n d) := by
  unfold haB
  rw [show hasAll zs n [d] 1 = (true && hasId zs n d) from rfl, Bool.true_and]
theorem hi_ok (zs : List Int) (n : Nat) (d x y : Int) (h : (tvB zs n && hasId zs n d) = true) : hiB zs n d x y = chB (hitOne zs d x y) n ∧ hiN zs n d x y = okN (hitOne zs d x y) n ∧ hiL zs n d x y = okL (hitOne zs d x y) n := by
  have hB : hiB zs n d x y = chB (hitOne zs d x y) n := by unfold hiB; rw [h]; rfl
  refine ⟨hB, ?_, ?_⟩
  · unfold hiN okN
    rw [hB]
    cases hq : chB (hitOne zs d x y) n
    · rfl
    · rw [if_pos rfl, if_pos rfl, hitOne_N hq]
  · unfold hiL okL; rw [hB]
theorem mi_ok (zs : List Int) (n : Nat) (d : Int) (h : (tvB zs n && hasId zs n d) = true) : miB zs n d = chB (missOne zs d) n ∧ miN zs n d = okN (missOne zs d) n ∧ miL zs n d = okL (missOne zs d) n := by
  have hB : miB zs n d = chB (missOne zs d) n := by rw [missOne_B]; exact h
  refine ⟨hB, ?_, ?_⟩
  · unfold miN okN; rw [hB]
  · unfold miL okL; rw [hB]
theorem hi_bad {zs : List Int} {n : Nat} {d x y : Int} (h : (tvB zs n && hasId zs n d) = false) : hiB zs n d x y = false := by unfold hiB; rw [h]; rfl
theorem tv_num {zs : List Int} {n k : Nat} (h : tvB zs n = true) (hk : k < n) : (-1000000 ≤ fld 6 zs k 4 ∧ fld 6 zs k 4 ≤ 1000000) ∧ -1000000 ≤ fld 6 zs k 5 ∧ fld 6 zs k 5 ≤ 1000000 := by
  have := tkB_yes (tv_at h hk)
  omega
/-- A new block with one number is a row of one. -/
theorem rd_one (W : World) (d : Int) : RdI (W.alloc (.cells #[.int .i64 d] 3)) (W.alloc (.cells #[.int .i64 d] 3)).heap.size (some ⟨W.heap.size, 0, none⟩) 1 [d] :=
  ⟨rfl, fun _ => ⟨W.heap.size, 0, rfl, by rw [World.size_alloc]; omega, fun j x hx => by
    rcases j with _ | j
    · simp at hx
      subst hx
      exact (newS 3 #[.int .i64 d] W).cell 0
    · simp at hx⟩⟩

set_option maxRecDepth 100000 in
set_option maxHeartbeats 2000000 in
theorem changeHit1 (zs : List Int) (d x y : Int) (pb : Nat) (A : Option Addr) (n cp : Nat) (w : World) (hn : n ≤ 1048577) (h1 : RdZ 6 w w.heap.size A n zs) (heh : Eh w) (c0 : w.cell? ⟨pb, 0, none⟩ = some (.int .i64 x)) (c1 : w.cell? ⟨pb, 1, none⟩ = some (.int .i64 y)) (hx : Ex w) :
    Calls Tryz.prog 44 #[.slice A n cp, .int .i64 d, .func (.func 45) #[] #[.pointer (some ⟨pb, 0, none⟩)]] w fun e w' => ∃ v, e = .returned (.tuple #[v, .bool (hiB zs n d x y)]) ∧ w'.ownsRow w.heap.size 25 6 v (hiN zs n d x y) (cellsI (hiL zs n d x y)) ∧ Below w.heap.size w w' := by
  have I0 := Lib.hid (((newS 3 #[.int .i64 d] w).alloc (.cells #[.func (.func 45) #[] #[.pointer (some ⟨pb, 0, none⟩)]] 81)))
  have F0 := Lib.hid ((newS 3 #[.int .i64 d] w).next 81 #[.func (.func 45) #[] #[.pointer (some ⟨pb, 0, none⟩)]])
  rw [World.size_alloc] at F0
  have HA := Lib.hid (fun (C : Option Addr) (q : Nat) (W : World) (hb : Below w.heap.size w W) h => haveIds zs [d] A C n cp 1 q W hn (by omega) (h1.next hb) h)
  have HR := Lib.hid h1
  cases hq : (tvB zs n && hasId zs n d)
  · have hB : hiB zs n d x y = false := hi_bad hq
    have HB := Lib.hid hB
    rw [ha_one, hq] at HA
    clear hq hB h1
    go_enter Tryz.func44, Tryz.ntmps44
    go_upto_region 1 with fail
    generalize (w.alloc (.cells #[.int .i64 d] 3)).alloc (.cells #[.func (.func 45) #[] #[.pointer (some ⟨pb, 0, none⟩)]] 81) = W0 at *
    have p0 : W0.cell? ⟨w.heap.size, 0, none⟩ = some (.int .i64 d) := I0.out.cell 0
    have R0 := Lib.hid (rd_one W0 d)
    have BA := Lib.hid ((Below.refl W0.heap.size W0).alloc (Nat.le_refl _) (.cells #[.int .i64 d] 3))
    have B1 := Lib.hid (I0.out.1.trans (BA.out.mono I0.out.1.size))
    go_wp2_with fail
    refine (HA.out (some ⟨W0.heap.size, 0, none⟩) 1 _ B1.out R0.out).mono ?_
    rintro e w1 ⟨rfl, hb⟩
    have B2 := Lib.hid (B1.out.trans (hb.mono B1.out.size))
    clear hb
    go_wp2_with fail
    go_ret2
    exact ⟨.slice none 0 0, by rw [HB.out]; rfl, by rw [(hi_no HB.out).1, (hi_no HB.out).2]; exact World.ownsRow_nil .., B2.out⟩
  · have hz : tvB zs n = true := by cases h : tvB zs n; rw [h] at hq; cases hq; rfl
    obtain ⟨hB, hN, hL⟩ := hi_ok zs n d x y hq
    rw [hB, hN, hL]
    rw [ha_one, hq] at HA
    have HS := Lib.hid (fun (ib cb : Nat) (W : World) (hW : Below w.heap.size w W) (e0 : W.cell? ⟨ib, 0, none⟩ = some (.int .i64 d)) (e1 : W.cell? ⟨cb, 0, none⟩ = some (.func (.func 45) #[] #[.pointer (some ⟨pb, 0, none⟩)])) => changeTracksC zs (hitOne zs d x y) ib cb A n cp W hn (HR.out.next hW) (eh_on heh hW) (fun k _ => by
        unfold hitOne
        split
        · exact three_hit _ _ _ _
        · exact three_row zs k) (fun k hk V hV => by
        have hb := tv_num hz hk
        exact changeHit (fld 6 zs k 0) (fld 6 zs k 1) (fld 6 zs k 2) (fld 6 zs k 3) (fld 6 zs k 4) (fld 6 zs k 5) d ib cb pb _ V (three_hit _ _ _ _) ((hV.cell (World.block_lt_of_cell? _ _ e0)).trans e0) ((hV.cell (World.block_lt_of_cell? _ _ e1)).trans e1) (fun U hU => hitClosure _ _ _ _ _ _ x y pb U hb.1.1 hb.1.2 (ex_on hx ((hW.trans (hV.mono hW.size)).trans (hU.mono (hW.trans (hV.mono hW.size)).size))) (((((hW.trans (hV.mono hW.size)).trans (hU.mono (hW.trans (hV.mono hW.size)).size))).cell (World.block_lt_of_cell? _ _ c0)).trans c0) (((((hW.trans (hV.mono hW.size)).trans (hU.mono (hW.trans (hV.mono hW.size)).size))).cell (World.block_lt_of_cell? _ _ c1)).trans c1))))
    clear hq hB hN hL h1 hz
    generalize hitOne zs d x y = ch at *
    go_enter Tryz.func44, Tryz.ntmps44
    go_upto_region 1 with fail
    generalize (w.alloc (.cells #[.int .i64 d] 3)).alloc (.cells #[.func (.func 45) #[] #[.pointer (some ⟨pb, 0, none⟩)]] 81) = W0 at *
    have p0 : W0.cell? ⟨w.heap.size, 0, none⟩ = some (.int .i64 d) := I0.out.cell 0
    have R0 := Lib.hid (rd_one W0 d)
    have BA := Lib.hid ((Below.refl W0.heap.size W0).alloc (Nat.le_refl _) (.cells #[.int .i64 d] 3))
    have B1 := Lib.hid (I0.out.1.trans (BA.out.mono I0.out.1.size))
    go_wp2_with fail
    refine (HA.out (some ⟨W0.heap.size, 0, none⟩) 1 _ B1.out R0.out).mono ?_
    rintro e w1 ⟨rfl, hb⟩
    have hb0 := BA.out.trans (hb.mono BA.out.size)
    have I1 := Lib.hid (I0.out.old hb0)
    have F1 := Lib.hid (F0.out.old hb0)
    clear hb hb0 p0
    go_wp2_with fail
    refine (HS.out w.heap.size (w.heap.size + 1) w1 I1.out.1 (I1.out.cell 0) (F1.out.cell 0)).mono ?_
    rintro e w2 ⟨v, rfl, ho, hb⟩
    have OX := Lib.hid (own_.own_base ho I1.out.1.size)
    have BX := Lib.hid (I1.out.1.trans (hb.mono I1.out.1.size))
    clear ho hb
    go_wp2_with fail
    go_ret2
    exact ⟨_, rfl, OX.out, BX.out⟩

set_option maxRecDepth 100000 in
set_option maxHeartbeats 2000000 in
theorem changeMiss1 (zs : List Int) (d : Int) (A : Option Addr) (n cp : Nat) (w : World) (hn : n ≤ 1048577) (h1 : RdZ 6 w w.heap.size A n zs) (heh : Eh w) :
    Calls Tryz.prog 44 #[.slice A n cp, .int .i64 d, .func (.func 89) #[] #[]] w fun e w' => ∃ v, e = .returned (.tuple #[v, .bool (miB zs n d)]) ∧ w'.ownsRow w.heap.size 25 6 v (miN zs n d) (cellsI (miL zs n d)) ∧ Below w.heap.size w w' := by
  have I0 := Lib.hid (((newS 3 #[.int .i64 d] w).alloc (.cells #[.func (.func 89) #[] #[]] 81)))
  have F0 := Lib.hid ((newS 3 #[.int .i64 d] w).next 81 #[.func (.func 89) #[] #[]])
  rw [World.size_alloc] at F0
  have HA := Lib.hid (fun (C : Option Addr) (q : Nat) (W : World) (hb : Below w.heap.size w W) h => haveIds zs [d] A C n cp 1 q W hn (by omega) (h1.next hb) h)
  have HR := Lib.hid h1
  cases hq : (tvB zs n && hasId zs n d)
  · have hB : miB zs n d = false := hq
    have HB := Lib.hid hB
    rw [ha_one, hq] at HA
    clear hq hB h1
    go_enter Tryz.func44, Tryz.ntmps44
    go_upto_region 1 with fail
    generalize (w.alloc (.cells #[.int .i64 d] 3)).alloc (.cells #[.func (.func 89) #[] #[]] 81) = W0 at *
    have p0 : W0.cell? ⟨w.heap.size, 0, none⟩ = some (.int .i64 d) := I0.out.cell 0
    have R0 := Lib.hid (rd_one W0 d)
    have BA := Lib.hid ((Below.refl W0.heap.size W0).alloc (Nat.le_refl _) (.cells #[.int .i64 d] 3))
    have B1 := Lib.hid (I0.out.1.trans (BA.out.mono I0.out.1.size))
    go_wp2_with fail
    refine (HA.out (some ⟨W0.heap.size, 0, none⟩) 1 _ B1.out R0.out).mono ?_
    rintro e w1 ⟨rfl, hb⟩
    have B2 := Lib.hid (B1.out.trans (hb.mono B1.out.size))
    clear hb
    go_wp2_with fail
    go_ret2
    exact ⟨.slice none 0 0, by rw [HB.out]; rfl, by rw [(mi_no HB.out).1, (mi_no HB.out).2]; exact World.ownsRow_nil .., B2.out⟩
  · have hz : tvB zs n = true := by cases h : tvB zs n; rw [h] at hq; cases hq; rfl
    obtain ⟨hB, hN, hL⟩ := mi_ok zs n d hq
    rw [hB, hN, hL]
    rw [ha_one, hq] at HA
    have HS := Lib.hid (fun (ib cb : Nat) (W : World) (hW : Below w.heap.size w W) (e0 : W.cell? ⟨ib, 0, none⟩ = some (.int .i64 d)) (e1 : W.cell? ⟨cb, 0, none⟩ = some (.func (.func 89) #[] #[])) => changeTracksC zs (missOne zs d) ib cb A n cp W hn (HR.out.next hW) (eh_on heh hW) (fun k _ => by
        unfold missOne
        split
        · exact three_miss _ _ _ _ _
        · exact three_row zs k) (fun k hk V hV => by
        have hb := tv_num hz hk
        exact changeMiss (fld 6 zs k 0) (fld 6 zs k 1) (fld 6 zs k 2) (fld 6 zs k 3) (fld 6 zs k 4) (fld 6 zs k 5) d ib cb _ V (three_miss _ _ _ _ _) ((hV.cell (World.block_lt_of_cell? _ _ e0)).trans e0) ((hV.cell (World.block_lt_of_cell? _ _ e1)).trans e1) (fun U hU => missOf _ _ _ _ _ _ U hb.2.1 hb.2.2)))
    clear hq hB hN hL h1 hz
    generalize missOne zs d = ch at *
    go_enter Tryz.func44, Tryz.ntmps44
    go_upto_region 1 with fail
    generalize (w.alloc (.cells #[.int .i64 d] 3)).alloc (.cells #[.func (.func 89) #[] #[]] 81) = W0 at *
    have p0 : W0.cell? ⟨w.heap.size, 0, none⟩ = some (.int .i64 d) := I0.out.cell 0
    have R0 := Lib.hid (rd_one W0 d)
    have BA := Lib.hid ((Below.refl W0.heap.size W0).alloc (Nat.le_refl _) (.cells #[.int .i64 d] 3))
    have B1 := Lib.hid (I0.out.1.trans (BA.out.mono I0.out.1.size))
    go_wp2_with fail
    refine (HA.out (some ⟨W0.heap.size, 0, none⟩) 1 _ B1.out R0.out).mono ?_
    rintro e w1 ⟨rfl, hb⟩
    have hb0 := BA.out.trans (hb.mono BA.out.size)
    have I1 := Lib.hid (I0.out.old hb0)
    have F1 := Lib.hid (F0.out.old hb0)
    clear hb hb0 p0
    go_wp2_with fail
    refine (HS.out w.heap.size (w.heap.size + 1) w1 I1.out.1 (I1.out.cell 0) (F1.out.cell 0)).mono ?_
    rintro e w2 ⟨v, rfl, ho, hb⟩
    have OX := Lib.hid (own_.own_base ho I1.out.1.size)
    have BX := Lib.hid (I1.out.1.trans (hb.mono I1.out.1.size))
    clear ho hb
    go_wp2_with fail
    go_ret2
    exact ⟨_, rfl, OX.out, BX.out⟩

set_option maxRecDepth 100000 in
theorem hitTrack (zs : List Int) (d x y : Int) (A : Option Addr) (n cp : Nat) (w : World) (hn : n ≤ 1048577) (h1 : RdZ 6 w w.heap.size A n zs) (heh : Eh w) (hx : Ex w) :
    Calls Tryz.prog 13 #[.slice A n cp, .int .i64 d, .agg #[.int .i64 x, .int .i64 y]] w fun e w' => ∃ v, e = .returned (.tuple #[v, .bool (hiB zs n d x y)]) ∧ w'.ownsRow w.heap.size 25 6 v (hiN zs n d x y) (cellsI (hiL zs n d x y)) ∧ Below w.heap.size w w' := by
  have P0 := Lib.hid (newS 35 #[.int .i64 x, .int .i64 y] w)
  have H := Lib.hid (fun (W : World) (hW : AtS 35 #[.int .i64 x, .int .i64 y] w W w.heap.size) => changeHit1 zs d x y w.heap.size A n cp W hn (h1.next hW.1) (eh_on heh hW.1) (hW.cell 0) (hW.cell 1) (ex_on hx hW.1))
  clear h1
  generalize hiB zs n d x y = B at *
  generalize hiN zs n d x y = N at *
  generalize hiL zs n d x y = L at *
  go_enter Tryz.func13, Tryz.ntmps13
  go_wp2_with fail
  generalize w.alloc (.cells #[.int .i64 x, .int .i64 y] 35) = W0 at *
  refine (H.out W0 P0.out).mono ?_
  rintro e w1 ⟨v, rfl, ho, hb⟩
  have OX := Lib.hid (own_.own_base ho P0.out.1.size)
  have BX := Lib.hid (P0.out.1.trans (hb.mono P0.out.1.size))
  clear ho hb
  go_wp2_with fail
  go_ret2
  exact ⟨_, rfl, OX.out, BX.out⟩
theorem sc_ok {zs ids ps : List Int} {n m q : Nat} (h1 : m = q) (h2 : asB ids m = true) (h3 : haB zs n ids m = true) : scB zs n ids m ps q = chB (scanC zs ids m ps) n ∧ scN zs n ids m ps q = okN (scanC zs ids m ps) n ∧ scL zs n ids m ps q = okL (scanC zs ids m ps) n ∧ scD zs n ids m ps q = okD (scanC zs ids m ps) n := by
  have hB : scB zs n ids m ps q = chB (scanC zs ids m ps) n := by unfold scB; rw [decide_eq_true h1, h2, h3]; rfl
  unfold scN scL scD okN okL okD
  rw [hB]
  exact ⟨rfl, rfl, rfl, rfl⟩
set_option maxRecDepth 100000 in
set_option maxHeartbeats 4000000 in
theorem scanTracks (zs ids ps : List Int) (A C D : Option Addr) (n cp m cq q c2 : Nat) (w : World) (hn : n ≤ 1048577) (hm : m ≤ 1048577) (hqn : q ≤ 1048577) (h1 : RdZ 6 w w.heap.size A n zs) (h2 : RdI w w.heap.size C m ids) (h4 : RdZ 2 w w.heap.size D q ps) (heh : Eh w) (hx : Ex w) :
    Calls Tryz.prog 57 #[.slice A n cp, .slice C m cq, .slice D q c2] w fun e w' => ∃ v, e = .returned (.tuple #[v, .int .i64 ((scD zs n ids m ps q : Nat) : Int), .bool (scB zs n ids m ps q)]) ∧ w'.ownsRow w.heap.size 25 6 v (scN zs n ids m ps q) (cellsI (scL zs n ids m ps q)) ∧ Below w.heap.size w w' := by
  have I0 := Lib.hid ((newS 50 #[.slice C m cq] w).alloc (.cells #[.slice D q c2] 46))
  have F0 := Lib.hid ((newS 50 #[.slice C m cq] w).next 46 #[.slice D q c2])
  rw [World.size_alloc] at F0
  have HD := Lib.hid (fun (W : World) (hb : Below w.heap.size w W) => doAscend ids C m cq W hm (h2.next hb))
  have HA := Lib.hid (fun (W : World) (hb : Below w.heap.size w W) => haveIds zs ids A C n cp m cq W hn hm (h1.next hb) (h2.next hb))
  by_cases hmq : m = q
  · subst hmq
    have g0 : ((m : Int) != (m : Int)) = false := by simp
    cases ha : asB ids m
    · have hB : scB zs n ids m ps m = false := by unfold scB; rw [ha, Bool.false_and, Bool.and_false]
      have HN := Lib.hid (show scB zs n ids m ps m = false ∧ scN zs n ids m ps m = 0 ∧ scL zs n ids m ps m = [] ∧ scD zs n ids m ps m = 0 from ⟨hB, (scan_no hB).2.1, (scan_no hB).1, (scan_no hB).2.2⟩)
      rw [ha] at HD
      clear ha hB h1 h2 h4
      go_enter Tryz.func57, Tryz.ntmps57
      go_upto_region 1 with fail
      generalize (w.alloc (.cells #[.slice C m cq] 50)).alloc (.cells #[.slice D m c2] 46) = W0 at *
      have p0 : W0.cell? ⟨w.heap.size, 0, none⟩ = some (.slice C m cq) := I0.out.cell 0
      have p1 : W0.cell? ⟨w.heap.size + 1, 0, none⟩ = some (.slice D m c2) := F0.out.cell 0
      go_wp2_with fail
      refine (HD.out W0 I0.out.1).mono ?_
      rintro e w1 ⟨rfl, hb⟩
      have I1 := Lib.hid (I0.out.old hb)
      have F1 := Lib.hid (F0.out.old hb)
      have p2 : w1.cell? ⟨w.heap.size, 0, none⟩ = some (.slice C m cq) := I1.out.cell 0
      clear hb p0 p1
      have BE := Lib.hid I1.out.1
      go_wp2_with fail
      go_ret3
      exact ⟨.slice none 0 0, by rw [HN.out.1, HN.out.2.2.2]; rfl, by rw [HN.out.2.1, HN.out.2.2.1]; exact World.ownsRow_nil .., BE.out⟩
    · rw [ha] at HD
      cases hh : haB zs n ids m
      · have hB : scB zs n ids m ps m = false := by unfold scB; rw [hh, Bool.false_and, Bool.and_false, Bool.and_false]
        have HN := Lib.hid (show scB zs n ids m ps m = false ∧ scN zs n ids m ps m = 0 ∧ scL zs n ids m ps m = [] ∧ scD zs n ids m ps m = 0 from ⟨hB, (scan_no hB).2.1, (scan_no hB).1, (scan_no hB).2.2⟩)
        rw [hh] at HA
        clear ha hh hB h1 h2 h4
        go_enter Tryz.func57, Tryz.ntmps57
        go_upto_region 1 with fail
        generalize (w.alloc (.cells #[.slice C m cq] 50)).alloc (.cells #[.slice D m c2] 46) = W0 at *
        have p0 : W0.cell? ⟨w.heap.size, 0, none⟩ = some (.slice C m cq) := I0.out.cell 0
        have p1 : W0.cell? ⟨w.heap.size + 1, 0, none⟩ = some (.slice D m c2) := F0.out.cell 0
        go_wp2_with fail
        refine (HD.out W0 I0.out.1).mono ?_
        rintro e w1 ⟨rfl, hb⟩
        have I1 := Lib.hid (I0.out.old hb)
        have F1 := Lib.hid (F0.out.old hb)
        have p2 : w1.cell? ⟨w.heap.size, 0, none⟩ = some (.slice C m cq) := I1.out.cell 0
        clear hb p0 p1
        go_wp2_with fail
        refine (HA.out w1 I1.out.1).mono ?_
        rintro e w2 ⟨rfl, hb⟩
        have I2 := Lib.hid (I1.out.old hb)
        have F2 := Lib.hid (F1.out.old hb)
        clear hb p2
        have BE := Lib.hid I2.out.1
        go_wp2_with fail
        go_ret3
        exact ⟨.slice none 0 0, by rw [HN.out.1, HN.out.2.2.2]; rfl, by rw [HN.out.2.1, HN.out.2.2.1]; exact World.ownsRow_nil .., BE.out⟩
      · rw [hh] at HA
        obtain ⟨hB, hN, hL, hD⟩ := sc_ok (ps := ps) rfl ha hh
        rw [hB, hN, hL, hD]
        have hz : tvB zs n = true := by unfold haB at hh; rw [Bool.and_eq_true] at hh; exact hh.1
        have HR := Lib.hid h1
        have HS := Lib.hid (fun (W : World) (hW : Below w.heap.size w W) (c0 : W.cell? ⟨w.heap.size, 0, none⟩ = some (.slice C m cq)) (c1 : W.cell? ⟨w.heap.size + 1, 0, none⟩ = some (.slice D m c2)) => changeTracksS zs (scanC zs ids m ps) w.heap.size (w.heap.size + 1) A n cp W hn (HR.out.next hW) (eh_on heh hW) (fun k _ => by
            unfold scanC
            split
            · exact three_hit _ _ _ _
            · exact three_miss _ _ _ _ _) (fun k hk V hV => by
            have hb := tv_num hz hk
            have hWV := hW.trans (hV.mono hW.size)
            have d0 := (hV.cell (World.block_lt_of_cell? _ _ c0)).trans c0
            have d1 := (hV.cell (World.block_lt_of_cell? _ _ c1)).trans c1
            by_cases hj : idx ids (fld 6 zs k 0) m < m
            · obtain ⟨bD, oD, eD, lD, hcD⟩ := (h4.next hWV).at_ (k := idx ids (fld 6 zs k 0) m) (by omega)
              rw [show scanC zs ids m ps k = hitO (fld 6 zs k 0) (fld 6 zs k 4) (fld 2 ps (idx ids (fld 6 zs k 0) m) 0) (fld 2 ps (idx ids (fld 6 zs k 0) m) 1) by unfold scanC; rw [if_pos hj]; rfl]
              exact scanHit (fld 6 zs k 0) (fld 6 zs k 1) (fld 6 zs k 2) (fld 6 zs k 3) (fld 6 zs k 4) (fld 6 zs k 5) _ _ w.heap.size (w.heap.size + 1) ids C D m cq m c2 _ V hm hb.1.1 hb.1.2 (ex_on hx hWV) d0 d1 (h2.next hWV) rfl hj (by omega) bD oD eD (hcD 0 (by omega)) (hcD 1 (by omega))
            · rw [show scanC zs ids m ps k = missO (fld 6 zs k 0) (fld 6 zs k 2) (fld 6 zs k 3) (fld 6 zs k 4) (fld 6 zs k 5) by unfold scanC; rw [if_neg hj]; rfl]
              exact scanMiss (fld 6 zs k 0) (fld 6 zs k 1) (fld 6 zs k 2) (fld 6 zs k 3) (fld 6 zs k 4) (fld 6 zs k 5) w.heap.size (w.heap.size + 1) ids C D m cq m c2 V hm hb.2.1 hb.2.2 d0 d1 (h2.next hWV) hj))
        clear ha hh hB hN hL hD h1 h2 h4 hz HR
        generalize scanC zs ids m ps = ch at *
        go_enter Tryz.func57, Tryz.ntmps57
        go_upto_region 1 with fail
        generalize (w.alloc (.cells #[.slice C m cq] 50)).alloc (.cells #[.slice D m c2] 46) = W0 at *
        have p0 : W0.cell? ⟨w.heap.size, 0, none⟩ = some (.slice C m cq) := I0.out.cell 0
        have p1 : W0.cell? ⟨w.heap.size + 1, 0, none⟩ = some (.slice D m c2) := F0.out.cell 0
        go_wp2_with fail
        refine (HD.out W0 I0.out.1).mono ?_
        rintro e w1 ⟨rfl, hb⟩
        have I1 := Lib.hid (I0.out.old hb)
        have F1 := Lib.hid (F0.out.old hb)
        have p2 : w1.cell? ⟨w.heap.size, 0, none⟩ = some (.slice C m cq) := I1.out.cell 0
        clear hb p0 p1
        go_wp2_with fail
        refine (HA.out w1 I1.out.1).mono ?_
        rintro e w2 ⟨rfl, hb⟩
        have I2 := Lib.hid (I1.out.old hb)
        have F2 := Lib.hid (F1.out.old hb)
        clear hb p2
        go_wp2_with fail
        refine (HS.out w2 I2.out.1 (I2.out.cell 0) (F2.out.cell 0)).mono ?_
        rintro e w3 ⟨v, rfl, ho, hb⟩
        have OX := Lib.hid (own_.own_base ho I2.out.1.size)
        have BX := Lib.hid (I2.out.1.trans (hb.mono I2.out.1.size))
        clear ho hb
        go_wp2_with fail
        go_ret3
        exact ⟨_, rfl, OX.out, BX.out⟩
  · have g0 : ((m : Int) != (q : Int)) = true := bne_iff_ne.mpr (by omega)
    have hB : scB zs n ids m ps q = false := by unfold scB; rw [decide_eq_false hmq]; rfl
    have HN := Lib.hid (show scB zs n ids m ps q = false ∧ scN zs n ids m ps q = 0 ∧ scL zs n ids m ps q = [] ∧ scD zs n ids m ps q = 0 from ⟨hB, (scan_no hB).2.1, (scan_no hB).1, (scan_no hB).2.2⟩)
    clear hmq hB h1 h2 h4
    go_enter Tryz.func57, Tryz.ntmps57
    go_upto_region 1 with fail
    generalize (w.alloc (.cells #[.slice C m cq] 50)).alloc (.cells #[.slice D q c2] 46) = W0 at *
    have p0 : W0.cell? ⟨w.heap.size, 0, none⟩ = some (.slice C m cq) := I0.out.cell 0
    have p1 : W0.cell? ⟨w.heap.size + 1, 0, none⟩ = some (.slice D q c2) := F0.out.cell 0
    have BE := Lib.hid I0.out.1
    go_wp2_with fail
    go_ret3
    exact ⟨.slice none 0 0, by rw [HN.out.1, HN.out.2.2.2]; rfl, by rw [HN.out.2.1, HN.out.2.2.1]; exact World.ownsRow_nil .., BE.out⟩
end Go.Proofs.YtfigjfckelichaaGreatDoor.trkg
