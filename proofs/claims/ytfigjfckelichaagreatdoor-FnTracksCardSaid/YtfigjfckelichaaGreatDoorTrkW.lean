/- impl's haveIds; what a change of a track returns. -/
import Derived.Test.YtfigjfckelichaaGreatDoorTrkV
import Derived.Test.YtfigjfckelichaaGreatDoorShelf
import Derived.Deep.RegionHeld3
namespace Go.Proofs.YtfigjfckelichaaGreatDoor.trkw
open Go.RowKit Go.Proofs.YtfigjfckelichaaGreatDoor.ints Go.Proofs.YtfigjfckelichaaGreatDoor.lst Go.Proofs.YtfigjfckelichaaGreatDoor.in_ Go.Proofs.YtfigjfckelichaaGreatDoor.ats Go.Proofs.YtfigjfckelichaaGreatDoor.pos Go.Proofs.YtfigjfckelichaaGreatDoor.trk Go.Proofs.YtfigjfckelichaaGreatDoor.trke Go.Proofs.YtfigjfckelichaaGreatDoor.intc Go.Proofs.YtfigjfckelichaaGreatDoor.rws Go.Proofs.YtfigjfckelichaaGreatDoor.trki Go.Proofs.YtfigjfckelichaaGreatDoor.trkv

theorem contains_is (zs : List Int) (n : Nat) (d : Int) : ((idL zs n).take n).contains d = hasId zs n d := by
  rw [List.take_of_length_le (by rw [idL_length]; exact Nat.le_refl _)]
  cases h : hasId zs n d
  · rw [Bool.eq_false_iff]
    intro hc
    rw [List.contains_iff_mem] at hc
    obtain ⟨k, hk, e⟩ := List.mem_iff_getElem.1 hc
    rw [idL_length] at hk
    have h1 := hasId_no h k hk
    have h2 := idL_at (zs := zs) hk
    rw [List.getElem?_eq_getElem (by rw [idL_length]; exact hk), e] at h2
    injection h2 with h2
    exact h1 h2.symm
  · obtain ⟨k, hk, e, _⟩ := hasId_yes h
    rw [List.contains_iff_mem]
    exact List.mem_of_getElem? ((idL_at hk).trans (by rw [e]))
theorem containsI (zs : List Int) (d : Int) (A : Option Addr) (n c : Nat) (w : World) (hn : n ≤ 1048577) (h : RdI w w.heap.size A n (idL zs n)) :
    Calls Tryz.prog 90 #[.slice A n c, .int .i64 d] w fun e w' => e = .returned (.bool (hasId zs n d)) ∧ w' = w := by
  rcases Nat.eq_zero_or_pos n with h0 | h0
  · subst h0
    rw [show hasId zs 0 d = false from rfl]
    exact Tryz.slices_Contains_int_empty A c d w
  · obtain ⟨b, o, rfl, hb, hc⟩ := h.2 h0
    rw [← contains_is]
    exact Tryz.slices_Contains_int b o n c (idL zs n) d w (by rw [idL_length]; exact Nat.le_refl _) (by omega) (fun j hj => by
      refine hc j _ ?_
      rw [List.getD_eq_getElem?_getD, List.getElem?_eq_getElem hj]; rfl)
/-- The closure of haveIds; kb: where the known Ids lie. -/
theorem hasClosure (zs : List Int) (d : Int) (kb : Nat) (A : Option Addr) (n c : Nat) (w : World) (hn : n ≤ 1048577) (hk : w.cell? ⟨kb, 0, none⟩ = some (.slice A n c)) (h : RdI w w.heap.size A n (idL zs n)) :
    Calls Tryz.prog 108 #[.int .i64 d, .pointer (some ⟨kb, 0, none⟩)] w fun e w' => e = .returned (.bool (hasId zs n d)) ∧ w' = w := by
  have C := Lib.hid (containsI zs d A n c w hn h)
  generalize hasId zs n d = p at *
  clear h
  go_enter Tryz.func108, Tryz.ntmps108
  go_wp2_with fail
  refine C.out.mono ?_
  rintro e w' ⟨rfl, rfl⟩
  go_wp2_with fail
  go_ret
  exact ⟨rfl, rfl⟩
set_option maxRecDepth 100000 in
set_option maxHeartbeats 1000000 in
theorem areAllHas (zs ids : List Int) (kb : Nat) (A C : Option Addr) (n c m q : Nat) (w : World) (hn : n ≤ 1048577) (hm : m ≤ 1048577) (hk : w.cell? ⟨kb, 0, none⟩ = some (.slice A n c)) (h : RdI w w.heap.size A n (idL zs n)) (h2 : RdI w w.heap.size C m ids) :
    Calls Tryz.prog 35 #[.func (.func 108) #[] #[.pointer (some ⟨kb, 0, none⟩)], .slice C m q] w fun e w' => e = .returned (.bool (hasAll zs n ids m)) ∧ w = w' := by
  have X := Lib.hid (fun d => hasClosure zs d kb A n c w hn hk h)
  clear hk h
  go_enter Tryz.func35, Tryz.ntmps35
  go_wp2
  go_loop [9] (fun i => ∃ k : Nat, k ≤ m ∧ i = .int .i64 k ∧ hasAll zs n ids k = true) (fun i => m - (intOf i).toNat)
  case atStart => exact ⟨0, Nat.zero_le _, rfl, rfl⟩
  case round =>
    obtain ⟨k, hk, rfl, hai⟩ := hrel
    by_cases hlt : k < m
    · obtain ⟨b, o, x, rfl, hbl, hx, hc⟩ := h2.at_ hlt
      have hlt2 : (k : Int) < (m : Int) := by omega
      have hxd : ids.getD k 0 = x := by rw [List.getD_eq_getElem?_getD, hx]; rfl
      have HN := Lib.hid (fun (h : hasId zs n (ids.getD k 0) = false) => hasAll_no (zs := zs) (n := n) (ids := ids) hlt h)
      have HS := Lib.hid (show hasAll zs n ids (k + 1) = (hasAll zs n ids k && hasId zs n (ids.getD k 0)) from rfl)
      have XK := Lib.hid (X.out x)
      rw [hai] at HS
      rw [hxd] at HS HN
      clear hxd hx hai h2 X
      generalize hasId zs n x = p at *
      cases p
      · have HE := Lib.hid (HN.out rfl)
        clear HN HS
        go_wp2_with fail
        refine XK.out.mono ?_
        rintro e w' ⟨rfl, rfl⟩
        go_wp2_with fail
        go_ret
        exact ⟨by rw [HE.out]; rfl, rfl⟩
      · have HE := Lib.hid (show hasAll zs n ids (k + 1) = true from HS.out)
        clear HN HS
        go_wp2_with fail
        refine XK.out.mono ?_
        rintro e w' ⟨rfl, rfl⟩
        go_wp2_with fail
        go_round
        case rel => exact ⟨k + 1, by omega, by go_num, HE.out⟩
        case measure => simp [intOf]; omega
    · obtain rfl : k = m := by omega
      have HO := Lib.hid hai
      clear h2 hai X
      go_wp2
      go_ret
      exact ⟨by rw [HO.out]; rfl, rfl⟩
set_option maxRecDepth 100000 in
theorem haveIds (zs ids : List Int) (A C : Option Addr) (n c m q : Nat) (w : World) (hn : n ≤ 1048577) (hm : m ≤ 1048577) (h1 : RdZ 6 w w.heap.size A n zs) (h2 : RdI w w.heap.size C m ids) :
    Calls Tryz.prog 82 #[.slice A n c, .slice C m q] w fun e w' => e = .returned (.bool (haB zs n ids m)) ∧ Below w.heap.size w w' := by
  have HV := Lib.hid (isValidTracks zs A n c w hn h1)
  have HI := Lib.hid (fun W (hb : Below w.heap.size w W) => idsOf zs A n c W hn (h1.next hb))
  have HA := Lib.hid (fun (kb : Nat) (A : Option Addr) (c : Nat) (W : World) (hb : Below w.heap.size w W) hk h => areAllHas zs ids kb A C n c m q W hn hm hk h (h2.next hb))
  have HL := Lib.hid (idL_length zs n)
  unfold haB
  clear h1 h2
  generalize tvB zs n = p at *
  generalize hasAll zs n ids m = r at *
  generalize idL zs n = L at *
  cases p
  · go_enter Tryz.func82, Tryz.ntmps82
    go_wp2_with fail
    refine HV.out.mono ?_
    rintro e w1 ⟨rfl, hb⟩
    go_wp2_with fail
    go_ret
    exact ⟨rfl, hb⟩
  · go_enter Tryz.func82, Tryz.ntmps82
    go_wp2_with fail
    refine HV.out.mono ?_
    rintro e w1 ⟨rfl, hb⟩
    have HB := Lib.hid hb
    clear hb
    go_wp2_with fail
    refine (HI.out w1 HB.out).mono ?_
    rintro e w2 ⟨v, rfl, ho, hb⟩
    obtain ⟨A2, c2, rfl⟩ := own_sliceZ ho
    have HB2 := Lib.hid (HB.out.trans (hb.mono HB.out.size))
    have BX := Lib.hid (newS 50 #[.slice A2 n c2] w2)
    have R2 := Lib.hid ((rd_of_own ho HL.out).next BX.out.1)
    have HB3 := Lib.hid (HB2.out.trans (BX.out.1.mono HB2.out.size))
    clear ho hb
    go_wp2_with fail
    refine (HA.out w2.heap.size A2 c2 _ HB3.out (BX.out.cell 0) R2.out).mono ?_
    rintro e w3 ⟨rfl, rfl⟩
    go_wp2_with fail
    go_ret
    exact ⟨rfl, HB3.out⟩

/-- What errNotHit holds. -/
def Ex (w : World) : Prop := ∃ a, w.cell? ⟨1, 0, none⟩ = some (.iface 190 a)
theorem ex_on {w w' : World} (h : Ex w) (hb : Below w.heap.size w w') : Ex w' := by
  obtain ⟨a, ha⟩ := h
  exact ⟨a, (hb.cell (World.block_lt_of_cell? _ _ ha)).trans ha⟩
/-- What a change returns. -/
def Out (c : Option (List Int)) (e : Ending) : Prop :=
  (∀ a b d f g k, c = some (six a b d f g k) → e = .returned (.tuple #[.agg #[.int .i64 a, .int .i64 b, .int .i64 d, .int .i64 f, .int .i64 g, .int .i64 k], .nilIface])) ∧
  (c = some [] → e = .returned (.tuple #[.agg #[.int .i64 0, .int .i64 0, .int .i64 0, .int .i64 0, .int .i64 0, .int .i64 0], .iface 138 (.agg #[])])) ∧
  (c = none → ∃ a, e = .returned (.tuple #[.agg #[.int .i64 0, .int .i64 0, .int .i64 0, .int .i64 0, .int .i64 0, .int .i64 0], .iface 190 a]))
theorem out_six (a b d f g k : Int) : Out (some (six a b d f g k)) (.returned (.tuple #[.agg #[.int .i64 a, .int .i64 b, .int .i64 d, .int .i64 f, .int .i64 g, .int .i64 k], .nilIface])) :=
  ⟨fun a' b' d' f' g' k' e => (by injection e with e; unfold six at e; injection e with e1 e; injection e with e2 e; injection e with e3 e; injection e with e4 e; injection e with e5 e; injection e with e6 e; subst e1 e2 e3 e4 e5 e6; rfl), fun e => (by injection e with e; cases e), fun e => (by cases e)⟩
theorem out_drop : Out (some []) (.returned (.tuple #[.agg #[.int .i64 0, .int .i64 0, .int .i64 0, .int .i64 0, .int .i64 0, .int .i64 0], .iface 138 (.agg #[])])) :=
  ⟨fun a b d f g k e => (by injection e with e; cases e), fun _ => rfl, fun e => (by cases e)⟩
theorem out_fail (a : Value) : Out none (.returned (.tuple #[.agg #[.int .i64 0, .int .i64 0, .int .i64 0, .int .i64 0, .int .i64 0, .int .i64 0], .iface 190 a])) :=
  ⟨fun a b d f g k e => (by cases e), fun e => (by cases e), fun _ => ⟨a, rfl⟩⟩
end Go.Proofs.YtfigjfckelichaaGreatDoor.trkw
