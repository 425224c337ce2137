/- impl's changeTracks, changeTrack, HitTrack, MissTrack, ScanTracks. -/
import Derived.Test.YtfigjfckelichaaGreatDoorTrkD
import Derived.Test.YtfigjfckelichaaGreatDoorErA
namespace Go.Proofs.YtfigjfckelichaaGreatDoor.trkf
open Go.RowKit Go.Proofs.YtfigjfckelichaaGreatDoor.ints Go.Proofs.YtfigjfckelichaaGreatDoor.lst Go.Proofs.YtfigjfckelichaaGreatDoor.in_ Go.Proofs.YtfigjfckelichaaGreatDoor.ats Go.Proofs.YtfigjfckelichaaGreatDoor.pos Go.Proofs.YtfigjfckelichaaGreatDoor.trk Go.Proofs.YtfigjfckelichaaGreatDoor.trke Go.Proofs.YtfigjfckelichaaGreatDoor.trki Go.Proofs.YtfigjfckelichaaGreatDoor.trkv Go.Proofs.YtfigjfckelichaaGreatDoor.trkw Go.Proofs.YtfigjfckelichaaGreatDoor.trkm Go.Proofs.YtfigjfckelichaaGreatDoor.trkd Go.Proofs.YtfigjfckelichaaGreatDoor.intc Go.Proofs.YtfigjfckelichaaGreatDoor.rws Go.Proofs.YtfigjfckelichaaGreatDoor.era

theorem eh_on {w w' : World} (h : Eh w) (hb : Below w.heap.size w w') : Eh w' := (hb.cell (World.block_lt_of_cell? _ _ h)).trans h
theorem ch_yes {c : Nat → Option (List Int)} {k : Nat} {a b d f g q : Int} (h : c k = some (six a b d f g q)) : chL c (k + 1) = chL c k ++ six a b d f g q ∧ chN c (k + 1) = chN c k + 1 ∧ chD c (k + 1) = chD c k ∧ chB c (k + 1) = chB c k := by
  refine ⟨?_, ?_, ?_, ?_⟩
  · rw [chL, h]; rfl
  · rw [chN, h, if_neg (fun e => by injection e with e; cases e)]
  · rw [chD, h, if_neg (fun e => by injection e with e; cases e)]; rfl
  · rw [chB, h]; exact Bool.and_true _
theorem ch_drop {c : Nat → Option (List Int)} {k : Nat} (h : c k = some []) : chL c (k + 1) = chL c k ∧ chN c (k + 1) = chN c k ∧ chD c (k + 1) = chD c k + 1 ∧ chB c (k + 1) = chB c k := by
  refine ⟨?_, ?_, ?_, ?_⟩
  · rw [chL, h]; exact List.append_nil _
  · rw [chN, h, if_pos rfl]; rfl
  · rw [chD, h, if_pos rfl]
  · rw [chB, h]; exact Bool.and_true _
theorem ch_fail {c : Nat → Option (List Int)} {k n : Nat} (h : c k = none) (hk : k < n) : chB c n = false := by
  refine chB_cut (k := k + 1) ?_ hk
  rw [chB, h]; exact Bool.and_false _
def okD (c : Nat → Option (List Int)) (n : Nat) : Nat := if chB c n then chD c n else 0
def okN (c : Nat → Option (List Int)) (n : Nat) : Nat := if chB c n then chN c n else 0
def okL (c : Nat → Option (List Int)) (n : Nat) : List Int := if chB c n then chL c n else []
theorem ok_no {c : Nat → Option (List Int)} {n : Nat} (h : chB c n = false) : okD c n = 0 ∧ okN c n = 0 ∧ okL c n = [] := by unfold okD okN okL; rw [h]; exact ⟨rfl, rfl, rfl⟩
theorem ok_yes {c : Nat → Option (List Int)} {n : Nat} (h : chB c n = true) : okD c n = chD c n ∧ okN c n = chN c n ∧ okL c n = chL c n := by unfold okD okN okL; rw [h]; exact ⟨rfl, rfl, rfl⟩
theorem six_cells (a b d f g q : Int) : ∀ u ∈ [Value.int .i64 a, .int .i64 b, .int .i64 d, .int .i64 f, .int .i64 g, .int .i64 q], u.oneCell' = true := by
  intro u hu
  simp at hu
  rcases hu with rfl | rfl | rfl | rfl | rfl | rfl <;> rfl

set_option maxRecDepth 100000 in
set_option maxHeartbeats 4000000 in
theorem changeTracksC (zs : List Int) (c : Nat → Option (List Int)) (p1 p2 : Nat) (A : Option Addr) (n cp : Nat) (w : World) (hn : n ≤ 1048577) (h1 : RdZ 6 w w.heap.size A n zs) (heh : Eh w) (h3 : ∀ k, k < n → Three (c k))
    (hstep : ∀ k, k < n → ∀ W, Below w.heap.size w W → Calls Tryz.prog 84 #[.agg #[.int .i64 (fld 6 zs k 0), .int .i64 (fld 6 zs k 1), .int .i64 (fld 6 zs k 2), .int .i64 (fld 6 zs k 3), .int .i64 (fld 6 zs k 4), .int .i64 (fld 6 zs k 5)], .pointer (some ⟨p1, 0, none⟩), .pointer (some ⟨p2, 0, none⟩)] W fun e w' => Out (c k) e ∧ Below W.heap.size W w') :
    Calls Tryz.prog 83 #[.slice A n cp, .func (.func 84) #[] #[.pointer (some ⟨p1, 0, none⟩), .pointer (some ⟨p2, 0, none⟩)]] w fun e w' => ∃ v, e = .returned (.tuple #[v, .int .i64 ((okD c n : Nat) : Int), .bool (chB c n)]) ∧ w'.ownsRow w.heap.size 25 6 v (okN c n) (cellsI (okL c n)) ∧ Below w.heap.size w w' := by
  obtain ⟨iT, hiT, hzT0, hzT1, hzT2⟩ := info_parts trke.infoS
  have HR := Lib.hid h1
  have HS := Lib.hid hstep
  have H3 := Lib.hid h3
  have HLE := Lib.hid (chN_le c)
  clear h1 hstep h3
  go_enter Tryz.func83, Tryz.ntmps83
  go_wp2_with fail
  go_loopw [7, 8, 16] (fun v d i wr => ∃ k : Nat, k ≤ n ∧ i = .int .i64 k ∧ d = .int .i64 ((chD c k : Nat) : Int) ∧ wr.ownsRow w.heap.size 25 6 v (chN c k) (cellsI (chL c k)) ∧ Below w.heap.size w wr ∧ chB c k = true) (fun _ _ i _ => n - (intOf i).toNat)
  case atStart => exact ⟨0, Nat.zero_le _, rfl, rfl, World.ownsRow_nil .., Below.refl _ _, rfl⟩
  case round =>
    obtain ⟨k, hk, rfl, rfl, hO, hb, hck⟩ := hrel
    by_cases hlt : k < n
    · obtain ⟨b1, o1, rfl, l1, p0, p1_, p2_, p3, p4, p5⟩ := cellsE (HR.out.below hb (Nat.le_refl _)) hlt
      have hlt2 : (k : Int) < (n : Int) := by omega
      obtain ⟨A5, c5, rfl⟩ := own_sliceZ hO
      have HSk := Lib.hid (fun W hw => HS.out k hlt W hw)
      have HB := Lib.hid hb
      have HBX := Lib.hid (hb.alloc hb.size (.cells #[.int .i64 (fld 6 zs k 0), .int .i64 (fld 6 zs k 1), .int .i64 (fld 6 zs k 2), .int .i64 (fld 6 zs k 3), .int .i64 (fld 6 zs k 4), .int .i64 (fld 6 zs k 5)] 25))
      have h3k := H3.out k hlt
      clear hb HS H3
      generalize fld 6 zs k 0 = u0 at *
      generalize fld 6 zs k 1 = u1 at *
      generalize fld 6 zs k 2 = u2 at *
      generalize fld 6 zs k 3 = u3 at *
      generalize fld 6 zs k 4 = u4 at *
      generalize fld 6 zs k 5 = u5 at *
      rcases h3k with ⟨a_, b_, d_, f_, g_, k_, he⟩ | he | he
      · have HC1 := Lib.hid (ch_yes he)
        rw [he] at HSk
        have HNk := HLE.out k
        have HCK := Lib.hid hck
        clear he hck
        generalize chL c k = L at *
        generalize chN c k = N at *
        generalize chD c k = D at *
        go_wp2_with fail
        refine (HSk.out _ HBX.out).mono ?_
        rintro e W1 ⟨ho_, hb⟩
        obtain rfl := ho_.1 _ _ _ _ _ _ rfl
        have O1 := Lib.hid (own_.own_below (hO.alloc (.cells #[.int .i64 u0, .int .i64 u1, .int .i64 u2, .int .i64 u3, .int .i64 u4, .int .i64 u5] 25)) hb)
        have B1 := Lib.hid (HBX.out.trans (hb.mono HBX.out.size))
        have C1 := Lib.hid ((newS 25 #[.int .i64 a_, .int .i64 b_, .int .i64 d_, .int .i64 f_, .int .i64 g_, .int .i64 k_] W1).alloc (.cells #[] 138))
        clear hb hO p0 p1_ p2_ p3 p4 p5 HSk HBX HB
        go_upto_region 9 with fail
        have hs1 : (W1.alloc (.cells #[.int .i64 a_, .int .i64 b_, .int .i64 d_, .int .i64 f_, .int .i64 g_, .int .i64 k_] 25)).heap.size = W1.heap.size + 1 := by rw [World.size_alloc]
        have O2 := Lib.hid ((O1.out.alloc (.cells #[.int .i64 a_, .int .i64 b_, .int .i64 d_, .int .i64 f_, .int .i64 g_, .int .i64 k_] 25)).alloc (.cells #[] 138))
        have B2 := Lib.hid ((B1.out.alloc B1.out.size (.cells #[.int .i64 a_, .int .i64 b_, .int .i64 d_, .int .i64 f_, .int .i64 g_, .int .i64 k_] 25)).alloc (by rw [World.size_alloc]; have := B1.out.size; omega) (.cells #[] 138))
        clear O1 B1 hs1
        generalize (W1.alloc (.cells #[.int .i64 a_, .int .i64 b_, .int .i64 d_, .int .i64 f_, .int .i64 g_, .int .i64 k_] 25)).alloc (.cells #[] 138) = V2 at *
        have r0 : V2.cell? ⟨W1.heap.size, 0, none⟩ = some (.int .i64 a_) := C1.out.cell 0
        have rf0 := C1.out.frozen 0
        have r1 : V2.cell? ⟨W1.heap.size, 1, none⟩ = some (.int .i64 b_) := C1.out.cell 1
        have rf1 := C1.out.frozen 1
        have r2 : V2.cell? ⟨W1.heap.size, 2, none⟩ = some (.int .i64 d_) := C1.out.cell 2
        have rf2 := C1.out.frozen 2
        have r3 : V2.cell? ⟨W1.heap.size, 3, none⟩ = some (.int .i64 f_) := C1.out.cell 3
        have rf3 := C1.out.frozen 3
        have r4 : V2.cell? ⟨W1.heap.size, 4, none⟩ = some (.int .i64 g_) := C1.out.cell 4
        have rf4 := C1.out.frozen 4
        have r5 : V2.cell? ⟨W1.heap.size, 5, none⟩ = some (.int .i64 k_) := C1.out.cell 5
        have rf5 := C1.out.frozen 5
        have O3 := Lib.hid (O2.out.alloc (.cells #[.int .i64 a_, .int .i64 b_, .int .i64 d_, .int .i64 f_, .int .i64 g_, .int .i64 k_] 25))
        have B3 := Lib.hid (B2.out.alloc B2.out.size (.cells #[.int .i64 a_, .int .i64 b_, .int .i64 d_, .int .i64 f_, .int .i64 g_, .int .i64 k_] 25))
        go_wp2_with (at_builtin; refine wpList_append_any rfl (.tmp 29) (.tmp 31) 33 rfl w.heap.size 25 iT (.agg #[.int .i64 0, .int .i64 0, .int .i64 0, .int .i64 0, .int .i64 0, .int .i64 0]) 6 48 Tryz.underlying33 hiT hzT0 hzT1 hzT2 rfl (by decide) _ N (cellsI L) rfl O3.out ⟨V2.heap.size, 0, none⟩ 1 1 [.int .i64 a_, .int .i64 b_, .int .i64 d_, .int .i64 f_, .int .i64 g_, .int .i64 k_] rfl rfl (cells_new V2 25 #[.int .i64 a_, .int .i64 b_, .int .i64 d_, .int .i64 f_, .int .i64 g_, .int .i64 k_]) (six_cells _ _ _ _ _ _) (by unfold maxLen; omega) (by omega) (by rw [World.size_alloc]; have := B2.out.size; omega) ?_; intro v6 w6 o6 g6 n6; obtain ⟨A7, c7, rfl⟩ := own_sliceZ o6)
        have O6 := Lib.hid (show w6.ownsRow w.heap.size 25 6 (.slice A7 (N + 1) c7) (N + 1) (cellsI (chL c (k + 1))) by rw [HC1.out.1]; unfold cellsI; rw [List.map_append]; exact o6)
        have B6 := Lib.hid (B3.out.grown g6 B3.out.size (own_.row_ge O3.out))
        clear o6 g6 n6 O3 B3 O2 B2 C1
        clear r0 rf0 r1 rf1 r2 rf2 r3 rf3 r4 rf4 r5 rf5
        go_wp2_with fail
        go_roundw
        case rel => exact ⟨k + 1, by omega, by go_num, by rw [HC1.out.2.2.1], by rw [HC1.out.2.1]; exact O6.out, B6.out, by rw [HC1.out.2.2.2]; exact HCK.out⟩
        case measure => simp [intOf]; omega
        
      · have HC1 := Lib.hid (ch_drop he)
        rw [he] at HSk
        have HNk := HLE.out k
        have HCK := Lib.hid hck
        clear he hck
        generalize chL c k = L at *
        generalize chN c k = N at *
        generalize chD c k = D at *
        have e1 : IntKind.i64.wrap ((D : Int) + 1) = (D : Int) + 1 := IntWalk.i64_in _ (by omega)
        go_wp2_with fail
        refine (HSk.out _ HBX.out).mono ?_
        rintro e W1 ⟨ho_, hb⟩
        obtain rfl := ho_.2.1 rfl
        have O1 := Lib.hid (own_.own_below (hO.alloc (.cells #[.int .i64 u0, .int .i64 u1, .int .i64 u2, .int .i64 u3, .int .i64 u4, .int .i64 u5] 25)) hb)
        have B1 := Lib.hid (HBX.out.trans (hb.mono HBX.out.size))
        have C1 := Lib.hid ((newS 25 #[.int .i64 0, .int .i64 0, .int .i64 0, .int .i64 0, .int .i64 0, .int .i64 0] W1).alloc (.cells #[] 138))
        clear hb hO p0 p1_ p2_ p3 p4 p5 HSk HBX HB
        go_upto_region 9 with fail
        have hs1 : (W1.alloc (.cells #[.int .i64 0, .int .i64 0, .int .i64 0, .int .i64 0, .int .i64 0, .int .i64 0] 25)).heap.size = W1.heap.size + 1 := by rw [World.size_alloc]
        have O2 := Lib.hid ((O1.out.alloc (.cells #[.int .i64 0, .int .i64 0, .int .i64 0, .int .i64 0, .int .i64 0, .int .i64 0] 25)).alloc (.cells #[] 138))
        have B2 := Lib.hid ((B1.out.alloc B1.out.size (.cells #[.int .i64 0, .int .i64 0, .int .i64 0, .int .i64 0, .int .i64 0, .int .i64 0] 25)).alloc (by rw [World.size_alloc]; have := B1.out.size; omega) (.cells #[] 138))
        clear O1 B1 hs1
        generalize (W1.alloc (.cells #[.int .i64 0, .int .i64 0, .int .i64 0, .int .i64 0, .int .i64 0, .int .i64 0] 25)).alloc (.cells #[] 138) = V2 at *
        have HA := Lib.hid (as_hit ⟨W1.heap.size + 1, 0, none⟩ V2 (eh_on heh B2.out))
        go_wp2_with fail
        refine HA.out.mono ?_
        rintro e W3 ⟨rfl, hb⟩
        have O6 := Lib.hid (own_.own_below O2.out hb)
        have B6 := Lib.hid (B2.out.trans (hb.mono B2.out.size))
        clear hb O2 B2 C1 HA
        go_wp2_with fail
        go_roundw
        case rel => exact ⟨k + 1, by omega, by go_num, by rw [HC1.out.2.2.1]; exact congrArg _ (by omega), by rw [HC1.out.1, HC1.out.2.1]; exact O6.out, B6.out, by rw [HC1.out.2.2.2]; exact HCK.out⟩
        case measure => simp [intOf]; omega
        
      · have HF := Lib.hid (ch_fail he hlt)
        rw [he] at HSk
        have HNk := HLE.out k
        have HCK := Lib.hid hck
        clear he hck
        go_wp2_with fail
        refine (HSk.out _ HBX.out).mono ?_
        rintro e W1 ⟨ho_, hb⟩
        obtain ⟨ae, rfl⟩ := ho_.2.2 rfl
        have O1 := Lib.hid (own_.own_below (hO.alloc (.cells #[.int .i64 u0, .int .i64 u1, .int .i64 u2, .int .i64 u3, .int .i64 u4, .int .i64 u5] 25)) hb)
        have B1 := Lib.hid (HBX.out.trans (hb.mono HBX.out.size))
        have C1 := Lib.hid ((newS 25 #[.int .i64 0, .int .i64 0, .int .i64 0, .int .i64 0, .int .i64 0, .int .i64 0] W1).alloc (.cells #[] 138))
        clear hb hO p0 p1_ p2_ p3 p4 p5 HSk HBX HB
        go_upto_region 9 with fail
        have hs1 : (W1.alloc (.cells #[.int .i64 0, .int .i64 0, .int .i64 0, .int .i64 0, .int .i64 0, .int .i64 0] 25)).heap.size = W1.heap.size + 1 := by rw [World.size_alloc]
        have O2 := Lib.hid ((O1.out.alloc (.cells #[.int .i64 0, .int .i64 0, .int .i64 0, .int .i64 0, .int .i64 0, .int .i64 0] 25)).alloc (.cells #[] 138))
        have B2 := Lib.hid ((B1.out.alloc B1.out.size (.cells #[.int .i64 0, .int .i64 0, .int .i64 0, .int .i64 0, .int .i64 0, .int .i64 0] 25)).alloc (by rw [World.size_alloc]; have := B1.out.size; omega) (.cells #[] 138))
        clear O1 B1 hs1
        generalize (W1.alloc (.cells #[.int .i64 0, .int .i64 0, .int .i64 0, .int .i64 0, .int .i64 0, .int .i64 0] 25)).alloc (.cells #[] 138) = V2 at *
        have HA := Lib.hid (as_miss ae ⟨W1.heap.size + 1, 0, none⟩ V2 (eh_on heh B2.out))
        go_wp2_with fail
        refine HA.out.mono ?_
        rintro e W3 ⟨rfl, hb⟩
        have B6 := Lib.hid (B2.out.trans (hb.mono B2.out.size))
        clear hb O2 B2 C1 HA
        go_wp2_with fail
        go_ret3
        exact ⟨.slice none 0 0, by rw [HF.out, (ok_no HF.out).1]; rfl, by rw [(ok_no HF.out).2.1, (ok_no HF.out).2.2]; exact World.ownsRow_nil .., B6.out⟩
        
    · obtain rfl : k = n := by omega
      have HO := Lib.hid hO
      have HB := Lib.hid hb
      have HK := Lib.hid hck
      obtain ⟨A5, c5, rfl⟩ := own_sliceZ hO
      clear hO hb hck
      go_wp2_with fail
      go_ret3
      exact ⟨_, by rw [HK.out, (ok_yes HK.out).1]; rfl, by rw [(ok_yes HK.out).2.1, (ok_yes HK.out).2.2]; exact HO.out, HB.out⟩

set_option maxRecDepth 100000 in
set_option maxHeartbeats 4000000 in
theorem changeTracksS (zs : List Int) (c : Nat → Option (List Int)) (p1 p2 : Nat) (A : Option Addr) (n cp : Nat) (w : World) (hn : n ≤ 1048577) (h1 : RdZ 6 w w.heap.size A n zs) (heh : Eh w) (h3 : ∀ k, k < n → Three (c k))
    (hstep : ∀ k, k < n → ∀ W, Below w.heap.size w W → Calls Tryz.prog 87 #[.agg #[.int .i64 (fld 6 zs k 0), .int .i64 (fld 6 zs k 1), .int .i64 (fld 6 zs k 2), .int .i64 (fld 6 zs k 3), .int .i64 (fld 6 zs k 4), .int .i64 (fld 6 zs k 5)], .pointer (some ⟨p1, 0, none⟩), .pointer (some ⟨p2, 0, none⟩)] W fun e w' => Out (c k) e ∧ Below W.heap.size W w') :
    Calls Tryz.prog 83 #[.slice A n cp, .func (.func 87) #[] #[.pointer (some ⟨p1, 0, none⟩), .pointer (some ⟨p2, 0, none⟩)]] w fun e w' => ∃ v, e = .returned (.tuple #[v, .int .i64 ((okD c n : Nat) : Int), .bool (chB c n)]) ∧ w'.ownsRow w.heap.size 25 6 v (okN c n) (cellsI (okL c n)) ∧ Below w.heap.size w w' := by
  obtain ⟨iT, hiT, hzT0, hzT1, hzT2⟩ := info_parts trke.infoS
  have HR := Lib.hid h1
  have HS := Lib.hid hstep
  have H3 := Lib.hid h3
  have HLE := Lib.hid (chN_le c)
  clear h1 hstep h3
  go_enter Tryz.func83, Tryz.ntmps83
  go_wp2_with fail
  go_loopw [7, 8, 16] (fun v d i wr => ∃ k : Nat, k ≤ n ∧ i = .int .i64 k ∧ d = .int .i64 ((chD c k : Nat) : Int) ∧ wr.ownsRow w.heap.size 25 6 v (chN c k) (cellsI (chL c k)) ∧ Below w.heap.size w wr ∧ chB c k = true) (fun _ _ i _ => n - (intOf i).toNat)
  case atStart => exact ⟨0, Nat.zero_le _, rfl, rfl, World.ownsRow_nil .., Below.refl _ _, rfl⟩
  case round =>
    obtain ⟨k, hk, rfl, rfl, hO, hb, hck⟩ := hrel
    by_cases hlt : k < n
    · obtain ⟨b1, o1, rfl, l1, p0, p1_, p2_, p3, p4, p5⟩ := cellsE (HR.out.below hb (Nat.le_refl _)) hlt
      have hlt2 : (k : Int) < (n : Int) := by omega
      obtain ⟨A5, c5, rfl⟩ := own_sliceZ hO
      have HSk := Lib.hid (fun W hw => HS.out k hlt W hw)
      have HB := Lib.hid hb
      have HBX := Lib.hid (hb.alloc hb.size (.cells #[.int .i64 (fld 6 zs k 0), .int .i64 (fld 6 zs k 1), .int .i64 (fld 6 zs k 2), .int .i64 (fld 6 zs k 3), .int .i64 (fld 6 zs k 4), .int .i64 (fld 6 zs k 5)] 25))
      have h3k := H3.out k hlt
      clear hb HS H3
      generalize fld 6 zs k 0 = u0 at *
      generalize fld 6 zs k 1 = u1 at *
      generalize fld 6 zs k 2 = u2 at *
      generalize fld 6 zs k 3 = u3 at *
      generalize fld 6 zs k 4 = u4 at *
      generalize fld 6 zs k 5 = u5 at *
      rcases h3k with ⟨a_, b_, d_, f_, g_, k_, he⟩ | he | he
      · have HC1 := Lib.hid (ch_yes he)
        rw [he] at HSk
        have HNk := HLE.out k
        have HCK := Lib.hid hck
        clear he hck
        generalize chL c k = L at *
        generalize chN c k = N at *
        generalize chD c k = D at *
        go_wp2_with fail
        refine (HSk.out _ HBX.out).mono ?_
        rintro e W1 ⟨ho_, hb⟩
        obtain rfl := ho_.1 _ _ _ _ _ _ rfl
        have O1 := Lib.hid (own_.own_below (hO.alloc (.cells #[.int .i64 u0, .int .i64 u1, .int .i64 u2, .int .i64 u3, .int .i64 u4, .int .i64 u5] 25)) hb)
        have B1 := Lib.hid (HBX.out.trans (hb.mono HBX.out.size))
        have C1 := Lib.hid ((newS 25 #[.int .i64 a_, .int .i64 b_, .int .i64 d_, .int .i64 f_, .int .i64 g_, .int .i64 k_] W1).alloc (.cells #[] 138))
        clear hb hO p0 p1_ p2_ p3 p4 p5 HSk HBX HB
        go_upto_region 9 with fail
        have hs1 : (W1.alloc (.cells #[.int .i64 a_, .int .i64 b_, .int .i64 d_, .int .i64 f_, .int .i64 g_, .int .i64 k_] 25)).heap.size = W1.heap.size + 1 := by rw [World.size_alloc]
        have O2 := Lib.hid ((O1.out.alloc (.cells #[.int .i64 a_, .int .i64 b_, .int .i64 d_, .int .i64 f_, .int .i64 g_, .int .i64 k_] 25)).alloc (.cells #[] 138))
        have B2 := Lib.hid ((B1.out.alloc B1.out.size (.cells #[.int .i64 a_, .int .i64 b_, .int .i64 d_, .int .i64 f_, .int .i64 g_, .int .i64 k_] 25)).alloc (by rw [World.size_alloc]; have := B1.out.size; omega) (.cells #[] 138))
        clear O1 B1 hs1
        generalize (W1.alloc (.cells #[.int .i64 a_, .int .i64 b_, .int .i64 d_, .int .i64 f_, .int .i64 g_, .int .i64 k_] 25)).alloc (.cells #[] 138) = V2 at *
        have r0 : V2.cell? ⟨W1.heap.size, 0, none⟩ = some (.int .i64 a_) := C1.out.cell 0
        have rf0 := C1.out.frozen 0
        have r1 : V2.cell? ⟨W1.heap.size, 1, none⟩ = some (.int .i64 b_) := C1.out.cell 1
        have rf1 := C1.out.frozen 1
        have r2 : V2.cell? ⟨W1.heap.size, 2, none⟩ = some (.int .i64 d_) := C1.out.cell 2
        have rf2 := C1.out.frozen 2
        have r3 : V2.cell? ⟨W1.heap.size, 3, none⟩ = some (.int .i64 f_) := C1.out.cell 3
        have rf3 := C1.out.frozen 3
        have r4 : V2.cell? ⟨W1.heap.size, 4, none⟩ = some (.int .i64 g_) := C1.out.cell 4
        have rf4 := C1.out.frozen 4
        have r5 : V2.cell? ⟨W1.heap.size, 5, none⟩ = some (.int .i64 k_) := C1.out.cell 5
        have rf5 := C1.out.frozen 5
        have O3 := Lib.hid (O2.out.alloc (.cells #[.int .i64 a_, .int .i64 b_, .int .i64 d_, .int .i64 f_, .int .i64 g_, .int .i64 k_] 25))
        have B3 := Lib.hid (B2.out.alloc B2.out.size (.cells #[.int .i64 a_, .int .i64 b_, .int .i64 d_, .int .i64 f_, .int .i64 g_, .int .i64 k_] 25))
        go_wp2_with (at_builtin; refine wpList_append_any rfl (.tmp 29) (.tmp 31) 33 rfl w.heap.size 25 iT (.agg #[.int .i64 0, .int .i64 0, .int .i64 0, .int .i64 0, .int .i64 0, .int .i64 0]) 6 48 Tryz.underlying33 hiT hzT0 hzT1 hzT2 rfl (by decide) _ N (cellsI L) rfl O3.out ⟨V2.heap.size, 0, none⟩ 1 1 [.int .i64 a_, .int .i64 b_, .int .i64 d_, .int .i64 f_, .int .i64 g_, .int .i64 k_] rfl rfl (cells_new V2 25 #[.int .i64 a_, .int .i64 b_, .int .i64 d_, .int .i64 f_, .int .i64 g_, .int .i64 k_]) (six_cells _ _ _ _ _ _) (by unfold maxLen; omega) (by omega) (by rw [World.size_alloc]; have := B2.out.size; omega) ?_; intro v6 w6 o6 g6 n6; obtain ⟨A7, c7, rfl⟩ := own_sliceZ o6)
        have O6 := Lib.hid (show w6.ownsRow w.heap.size 25 6 (.slice A7 (N + 1) c7) (N + 1) (cellsI (chL c (k + 1))) by rw [HC1.out.1]; unfold cellsI; rw [List.map_append]; exact o6)
        have B6 := Lib.hid (B3.out.grown g6 B3.out.size (own_.row_ge O3.out))
        clear o6 g6 n6 O3 B3 O2 B2 C1
        clear r0 rf0 r1 rf1 r2 rf2 r3 rf3 r4 rf4 r5 rf5
        go_wp2_with fail
        go_roundw
        case rel => exact ⟨k + 1, by omega, by go_num, by rw [HC1.out.2.2.1], by rw [HC1.out.2.1]; exact O6.out, B6.out, by rw [HC1.out.2.2.2]; exact HCK.out⟩
        case measure => simp [intOf]; omega
        
      · have HC1 := Lib.hid (ch_drop he)
        rw [he] at HSk
        have HNk := HLE.out k
        have HCK := Lib.hid hck
        clear he hck
        generalize chL c k = L at *
        generalize chN c k = N at *
        generalize chD c k = D at *
        have e1 : IntKind.i64.wrap ((D : Int) + 1) = (D : Int) + 1 := IntWalk.i64_in _ (by omega)
        go_wp2_with fail
        refine (HSk.out _ HBX.out).mono ?_
        rintro e W1 ⟨ho_, hb⟩
        obtain rfl := ho_.2.1 rfl
        have O1 := Lib.hid (own_.own_below (hO.alloc (.cells #[.int .i64 u0, .int .i64 u1, .int .i64 u2, .int .i64 u3, .int .i64 u4, .int .i64 u5] 25)) hb)
        have B1 := Lib.hid (HBX.out.trans (hb.mono HBX.out.size))
        have C1 := Lib.hid ((newS 25 #[.int .i64 0, .int .i64 0, .int .i64 0, .int .i64 0, .int .i64 0, .int .i64 0] W1).alloc (.cells #[] 138))
        clear hb hO p0 p1_ p2_ p3 p4 p5 HSk HBX HB
        go_upto_region 9 with fail
        have hs1 : (W1.alloc (.cells #[.int .i64 0, .int .i64 0, .int .i64 0, .int .i64 0, .int .i64 0, .int .i64 0] 25)).heap.size = W1.heap.size + 1 := by rw [World.size_alloc]
        have O2 := Lib.hid ((O1.out.alloc (.cells #[.int .i64 0, .int .i64 0, .int .i64 0, .int .i64 0, .int .i64 0, .int .i64 0] 25)).alloc (.cells #[] 138))
        have B2 := Lib.hid ((B1.out.alloc B1.out.size (.cells #[.int .i64 0, .int .i64 0, .int .i64 0, .int .i64 0, .int .i64 0, .int .i64 0] 25)).alloc (by rw [World.size_alloc]; have := B1.out.size; omega) (.cells #[] 138))
        clear O1 B1 hs1
        generalize (W1.alloc (.cells #[.int .i64 0, .int .i64 0, .int .i64 0, .int .i64 0, .int .i64 0, .int .i64 0] 25)).alloc (.cells #[] 138) = V2 at *
        have HA := Lib.hid (as_hit ⟨W1.heap.size + 1, 0, none⟩ V2 (eh_on heh B2.out))
        go_wp2_with fail
        refine HA.out.mono ?_
        rintro e W3 ⟨rfl, hb⟩
        have O6 := Lib.hid (own_.own_below O2.out hb)
        have B6 := Lib.hid (B2.out.trans (hb.mono B2.out.size))
        clear hb O2 B2 C1 HA
        go_wp2_with fail
        go_roundw
        case rel => exact ⟨k + 1, by omega, by go_num, by rw [HC1.out.2.2.1]; exact congrArg _ (by omega), by rw [HC1.out.1, HC1.out.2.1]; exact O6.out, B6.out, by rw [HC1.out.2.2.2]; exact HCK.out⟩
        case measure => simp [intOf]; omega
        
      · have HF := Lib.hid (ch_fail he hlt)
        rw [he] at HSk
        have HNk := HLE.out k
        have HCK := Lib.hid hck
        clear he hck
        go_wp2_with fail
        refine (HSk.out _ HBX.out).mono ?_
        rintro e W1 ⟨ho_, hb⟩
        obtain ⟨ae, rfl⟩ := ho_.2.2 rfl
        have O1 := Lib.hid (own_.own_below (hO.alloc (.cells #[.int .i64 u0, .int .i64 u1, .int .i64 u2, .int .i64 u3, .int .i64 u4, .int .i64 u5] 25)) hb)
        have B1 := Lib.hid (HBX.out.trans (hb.mono HBX.out.size))
        have C1 := Lib.hid ((newS 25 #[.int .i64 0, .int .i64 0, .int .i64 0, .int .i64 0, .int .i64 0, .int .i64 0] W1).alloc (.cells #[] 138))
        clear hb hO p0 p1_ p2_ p3 p4 p5 HSk HBX HB
        go_upto_region 9 with fail
        have hs1 : (W1.alloc (.cells #[.int .i64 0, .int .i64 0, .int .i64 0, .int .i64 0, .int .i64 0, .int .i64 0] 25)).heap.size = W1.heap.size + 1 := by rw [World.size_alloc]
        have O2 := Lib.hid ((O1.out.alloc (.cells #[.int .i64 0, .int .i64 0, .int .i64 0, .int .i64 0, .int .i64 0, .int .i64 0] 25)).alloc (.cells #[] 138))
        have B2 := Lib.hid ((B1.out.alloc B1.out.size (.cells #[.int .i64 0, .int .i64 0, .int .i64 0, .int .i64 0, .int .i64 0, .int .i64 0] 25)).alloc (by rw [World.size_alloc]; have := B1.out.size; omega) (.cells #[] 138))
        clear O1 B1 hs1
        generalize (W1.alloc (.cells #[.int .i64 0, .int .i64 0, .int .i64 0, .int .i64 0, .int .i64 0, .int .i64 0] 25)).alloc (.cells #[] 138) = V2 at *
        have HA := Lib.hid (as_miss ae ⟨W1.heap.size + 1, 0, none⟩ V2 (eh_on heh B2.out))
        go_wp2_with fail
        refine HA.out.mono ?_
        rintro e W3 ⟨rfl, hb⟩
        have B6 := Lib.hid (B2.out.trans (hb.mono B2.out.size))
        clear hb O2 B2 C1 HA
        go_wp2_with fail
        go_ret3
        exact ⟨.slice none 0 0, by rw [HF.out, (ok_no HF.out).1]; rfl, by rw [(ok_no HF.out).2.1, (ok_no HF.out).2.2]; exact World.ownsRow_nil .., B6.out⟩
        
    · obtain rfl : k = n := by omega
      have HO := Lib.hid hO
      have HB := Lib.hid hb
      have HK := Lib.hid hck
      obtain ⟨A5, c5, rfl⟩ := own_sliceZ hO
      clear hO hb hck
      go_wp2_with fail
      go_ret3
      exact ⟨_, by rw [HK.out, (ok_yes HK.out).1]; rfl, by rw [(ok_yes HK.out).2.1, (ok_yes HK.out).2.2]; exact HO.out, HB.out⟩
end Go.Proofs.YtfigjfckelichaaGreatDoor.trkf
