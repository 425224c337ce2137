/- impl's areFrames, FramesOf, AddressesOf. -/
import Derived.Test.YtpjpdfannnafbaaFrmI
import Derived.Test.YtpjpdfannnafbaaFrmN
import Derived.Test.YtpjpdfannnafbaaSortI
namespace Go.Proofs.Ytpjpdfannnafbaa.frmg
open Go.RowKit Go.Sort Go.Proofs.Ytpjpdfannnafbaa.ints Go.Proofs.Ytpjpdfannnafbaa.frmz Go.Proofs.Ytpjpdfannnafbaa.frmw Go.Proofs.Ytpjpdfannnafbaa.frm Go.Proofs.Ytpjpdfannnafbaa.frmx Go.Proofs.Ytpjpdfannnafbaa.frmq Go.Proofs.Ytpjpdfannnafbaa.frma Go.Proofs.Ytpjpdfannnafbaa.asc

set_option maxRecDepth 100000 in
set_option maxHeartbeats 1000000 in
theorem areFrames (zs : List Int) (A : Option Addr) (n c : Nat) (w : World) (hn : n ≤ 1048577) (h1 : RdZ 3 w w.heap.size A n zs) :
    Calls Try.prog 49 #[.slice A n c] w fun e w' => e = .returned (.bool (listB zs n)) ∧ Below w.heap.size w w' := by
  by_cases h20 : n ≤ 20
  · have hd : decide ((20 : Int) < (n : Int)) = false := decide_eq_false (by omega)
    go_enter Try.func49, Try.ntmps49
    go_wp2_with fail
    go_loopw [10] (fun i wr => ∃ k : Nat, k ≤ n ∧ i = .int .i64 k ∧ Below w.heap.size w wr ∧ ∀ j, j < k → goodAt zs j = true) (fun i _ => n - (intOf i).toNat)
    case atStart => exact ⟨0, Nat.zero_le _, rfl, Below.refl _ _, fun _ h => absurd h (Nat.not_lt_zero _)⟩
    case round =>
      obtain ⟨k, hk, rfl, hb, ha⟩ := hrel
      by_cases hlt : k < n
      · have hlt2 : (k : Int) < (n : Int) := by omega
        obtain ⟨b1, o1, rfl, l1, p0, p1, p2⟩ := cells3 (h1.below hb (Nat.le_refl _)) hlt
        have X1 := Lib.hid (fun w => frmi.isValid (fld 3 zs k 0) (fld 3 zs k 1) (fld 3 zs k 2) w)
        have HB := Lib.hid hb
        have HA := Lib.hid ha
        clear h1 hb ha
        go_wp2_with fail
        refine (X1.out _).mono ?_
        rintro e w2 ⟨rfl, hb2⟩
        have hbq := Lib.hid (HB.out.trans ((((Below.refl wr.heap.size wr).alloc (Nat.le_refl _) _).trans (hb2.mono (by simp))).mono HB.out.size))
        clear p0 p1 p2 hb2
        cases hg : good (fld 3 zs k 0) (fld 3 zs k 1) (fld 3 zs k 2)
        · have HN := Lib.hid (list_no (zs := zs) (n := n) hlt hg)
          go_wp2_with fail
          go_ret
          exact ⟨by rw [HN.out]; rfl, hbq.out⟩
        · go_wp2_with fail
          go_roundw
          case rel =>
            refine ⟨k + 1, by omega, by go_num, hbq.out, fun j hj => ?_⟩
            rcases Nat.lt_or_ge j k with h | h
            · exact HA.out j h
            · obtain rfl : j = k := by omega
              exact hg
          case measure => simp [intOf]; omega
      · obtain rfl : k = n := by omega
        have HN := Lib.hid (list_yes h20 ha)
        clear h1 ha
        go_wp2_with fail
        go_ret
        exact ⟨by rw [HN.out]; rfl, hb⟩
  · have hd : decide ((20 : Int) < (n : Int)) = true := decide_eq_true (by omega)
    have HN := Lib.hid (list_long (zs := zs) (n := n) h20)
    clear h1 h20
    go_enter Try.func49, Try.ntmps49
    go_wp2_with fail
    go_ret
    exact ⟨by rw [HN.out]; rfl, Below.refl _ _⟩

theorem cell_one_two (w : World) (o : Obj) (x : Value) (t : TypeId) : ∀ j u, [x][j]? = some u → ((w.alloc o).alloc (.cells #[x] t)).cell? ((⟨w.heap.size + 1, 0, none⟩ : Addr).add j) = some u := by
  have h := cell_one_new (w.alloc o) x t
  rw [World.size_alloc] at h
  exact h
theorem isIn_dec (a : Int) : in_.isIn a 1 65535 = decide (1 ≤ a ∧ a ≤ 65535) := by unfold in_.isIn; rw [Bool.eq_iff_iff]

set_option maxRecDepth 100000 in
set_option maxHeartbeats 2000000 in
theorem framesOf (zs : List Int) (a : Int) (A : Option Addr) (n c : Nat) (w : World) (hn : n ≤ 1048577) (h : RdZ 3 w w.heap.size A n zs) :
    Calls Try.prog 16 #[.slice A n c, .int .i64 a] w fun e w' => ∃ v, e = .returned (.tuple #[v, .bool (foB zs n a)]) ∧ w'.ownsRow w.heap.size 3 1 v (foV zs n a).length (cellsI (foV zs n a)) ∧ Below w.heap.size w w' := by
  have hL := areFrames zs A n c w hn h
  have O0 := Lib.hid (World.ownsRow_nil w w.heap.size 3 1)
  have hA := fun w => frmi.isAddress a w
  rw [← isIn_dec] at hA
  cases hb : listB zs n
  · have HF := Lib.hid (show foB zs n a = false from by unfold foB; rw [hb]; rfl)
    rw [hb] at hL
    have HL := Lib.hid hL
    clear h hb hL hA
    go_enter Try.func16, Try.ntmps16
    go_wp2_with fail
    refine HL.out.mono ?_
    rintro e w1 ⟨rfl, hb1⟩
    go_wp2_with fail
    go_ret2
    exact ⟨_, by rw [HF.out]; rfl, by rw [fo_no HF.out]; exact World.ownsRow_nil _ _ _ _, hb1⟩
  · have h20 := list_le hb
    rw [hb] at hL
    have HL := Lib.hid hL
    cases ha : in_.isIn a 1 65535
    · have HF := Lib.hid (show foB zs n a = false from by unfold foB; rw [hb, ha]; rfl)
      rw [ha] at hA
      have HA := Lib.hid hA
      clear h hb ha hA hL
      go_enter Try.func16, Try.ntmps16
      go_wp2_with fail
      refine HL.out.mono ?_
      rintro e w1 ⟨rfl, hb1⟩
      go_wp2_with fail
      refine (HA.out _).mono ?_
      rintro e w2 ⟨rfl, rfl⟩
      go_wp2_with fail
      go_ret2
      exact ⟨_, by rw [HF.out]; rfl, by rw [fo_no HF.out]; exact World.ownsRow_nil _ _ _ _, hb1⟩
    · have HF := Lib.hid (show foB zs n a = true from by unfold foB; rw [hb, ha]; rfl)
      obtain ⟨i0, hi, hz0, hz1, hz2⟩ := info_parts infoI
      rw [ha] at hA
      have HA := Lib.hid hA
      clear hb ha hA hL
      go_enter Try.func16, Try.ntmps16
      go_wp2_with fail
      refine HL.out.mono ?_
      rintro e w1 ⟨rfl, hb1⟩
      have B1 := Lib.hid hb1
      have O1 := Lib.hid (World.ownsRow_nil w1 w.heap.size 3 1)
      clear hb1
      go_wp2_with fail
      refine (HA.out _).mono ?_
      rintro e w2 ⟨rfl, rfl⟩
      go_wp2_with fail
      go_loopw [6, 19] (fun v i wr => ∃ k : Nat, k ≤ n ∧ i = .int .i64 k ∧ wr.ownsRow w.heap.size 3 1 v (foT zs a k).length (cellsI (foT zs a k)) ∧ Below w.heap.size w wr) (fun _ i _ => n - (intOf i).toNat)
      case atStart => exact ⟨0, Nat.zero_le _, rfl, O1.out, B1.out⟩
      case round =>
        obtain ⟨k, hk, rfl, hown, hbw⟩ := hrel
        have hsz := hbw.size
        have hlen := foT_length zs a k
        by_cases hlt : k < n
        · obtain ⟨b, o, rfl, l1, p0, p1, p2⟩ := cells3 (h.below hbw (Nat.le_refl _)) hlt
          have hlt2 : (k : Int) < (n : Int) := by omega
          clear h HL
          generalize fld 3 zs k 0 = f0 at *
          generalize fld 3 zs k 2 = f2 at *
          by_cases he : fld 3 zs k 1 = a
          · have HS := Lib.hid (foT_yes he)
            have h1 : (a == a) = true := by simp
            rw [he] at p1
            clear he
            go_wp2_with (at_builtin; refine wpList_append_own _ rfl (.tmp 28) (.tmp 30) 33 rfl w.heap.size 3 i0 (.int .i64 0) 1 8 Try.underlying33 hi hz0 hz1 hz2 rfl (by decide) _ (foT zs a k).length (cellsI (foT zs a k)) rfl ((hown.alloc _).alloc _) ⟨wr.heap.size + 1, 0, none⟩ 1 1 [.int .i64 k] rfl rfl (cell_one_two _ _ _ _) (own_.one_cell _ rfl) (by unfold maxLen; omega) (by omega) (by simp; omega) ?_; intro v' w3 hown' hgrow hnil)
            have hb' := Below.grown ((hbw.alloc hsz _).alloc (by rw [World.size_alloc]; omega) _) hgrow (by simp; omega) (own_.row_ge hown)
            have HO := Lib.hid (own_grow hown')
            clear hown' hgrow hnil hown hbw p1
            go_roundw
            case rel => exact ⟨k + 1, by omega, by go_num, by rw [HS.out]; exact HO.out, hb'⟩
            case measure => simp [intOf]; omega
          · have HS := Lib.hid (foT_no he)
            have h1 : (fld 3 zs k 1 == a) = false := by simpa using he
            clear he
            go_wp2_with fail
            go_roundw
            case rel => exact ⟨k + 1, by omega, by go_num, by rw [HS.out]; exact hown.alloc _, hbw.alloc hsz _⟩
            case measure => simp [intOf]; omega
        · obtain rfl : k = n := by omega
          clear h HL
          go_wp2_with fail
          go_ret2
          exact ⟨_, by rw [HF.out]; rfl, by rw [fo_yes HF.out]; exact hown, hbw⟩

/-- The addresses of the first k frames, one for each. -/
def adR (zs : List Int) (k : Nat) : List Int := (List.range k).map fun j => fld 3 zs j 1
theorem adR_step (zs : List Int) (k : Nat) : adR zs (k + 1) = adR zs k ++ [fld 3 zs k 1] := by unfold adR; rw [List.range_succ, List.map_append]; rfl
theorem adR_length (zs : List Int) (k : Nat) : (adR zs k).length = k := by unfold adR; simp
theorem adR_all (zs : List Int) (k : Nat) : Lib.compact (sorti.rising (adR zs k)) = adT zs k := by
  refine compact_eq (frmn.ad_asc zs k) fun z => ?_
  rw [frmn.ad_mem]
  unfold adR
  rw [List.mem_map]
  constructor
  · rintro ⟨j, hj, e⟩
    exact ⟨j, List.mem_range.2 hj, e⟩
  · rintro ⟨j, hj, e⟩
    exact ⟨j, List.mem_range.1 hj, e⟩

set_option maxRecDepth 100000 in
set_option maxHeartbeats 2000000 in
theorem addressesOf (zs : List Int) (A : Option Addr) (n c : Nat) (w : World) (hn : n ≤ 1048577) (h : RdZ 3 w w.heap.size A n zs) :
    Calls Try.prog 20 #[.slice A n c] w fun e w' => ∃ v, e = .returned (.tuple #[v, .bool (listB zs n)]) ∧ w'.ownsRow w.heap.size 3 1 v (adV zs n).length (cellsI (adV zs n)) ∧ Below w.heap.size w w' := by
  have hL := areFrames zs A n c w hn h
  cases hb : listB zs n
  · have HF := Lib.hid hb
    rw [hb] at hL
    have HL := Lib.hid hL
    clear h hb hL
    go_enter Try.func20, Try.ntmps20
    go_wp2_with fail
    refine HL.out.mono ?_
    rintro e w1 ⟨rfl, hb1⟩
    go_wp2_with fail
    go_ret2
    exact ⟨_, by rfl, by rw [ad_no HF.out]; exact World.ownsRow_nil _ _ _ _, hb1⟩
  · have h20 := list_le hb
    have HF := Lib.hid hb
    obtain ⟨i0, hi, hz0, hz1, hz2⟩ := info_parts infoI
    rw [hb] at hL
    have HL := Lib.hid hL
    clear hb hL
    go_enter Try.func20, Try.ntmps20
    go_wp2_with fail
    refine HL.out.mono ?_
    rintro e w1 ⟨rfl, hb1⟩
    have B1 := Lib.hid hb1
    have O1 := Lib.hid (World.ownsRow_nil w1 w.heap.size 3 1)
    clear hb1
    go_wp2_with fail
    go_loopw [4, 12] (fun v i wr => ∃ k : Nat, k ≤ n ∧ i = .int .i64 k ∧ wr.ownsRow w.heap.size 3 1 v (adR zs k).length (cellsI (adR zs k)) ∧ Below w.heap.size w wr) (fun _ i _ => n - (intOf i).toNat)
    case atStart => exact ⟨0, Nat.zero_le _, rfl, O1.out, B1.out⟩
    case round =>
      obtain ⟨k, hk, rfl, hown, hbw⟩ := hrel
      have hsz := hbw.size
      by_cases hlt : k < n
      · obtain ⟨b, o, rfl, l1, p0, p1, p2⟩ := cells3 (h.below hbw (Nat.le_refl _)) hlt
        have hlt2 : (k : Int) < (n : Int) := by omega
        have HS := Lib.hid (adR_step zs k)
        have hlen := adR_length zs k
        clear h HL
        generalize fld 3 zs k 0 = f0 at *
        generalize fld 3 zs k 2 = f2 at *
        generalize fld 3 zs k 1 = f1 at *
        go_wp2_with (at_builtin; refine wpList_append_own _ rfl (.tmp 16) (.tmp 19) 33 rfl w.heap.size 3 i0 (.int .i64 0) 1 8 Try.underlying33 hi hz0 hz1 hz2 rfl (by decide) _ (adR zs k).length (cellsI (adR zs k)) rfl ((hown.alloc _).alloc _) ⟨wr.heap.size + 1, 0, none⟩ 1 1 [.int .i64 f1] rfl rfl (cell_one_two _ _ _ _) (own_.one_cell _ rfl) (by unfold maxLen; omega) (by omega) (by simp; omega) ?_; intro v' w3 hown' hgrow hnil)
        have hb' := Below.grown ((hbw.alloc hsz _).alloc (by rw [World.size_alloc]; omega) _) hgrow (by simp; omega) (own_.row_ge hown)
        have HO := Lib.hid (own_grow hown')
        clear hown' hgrow hnil hown hbw p1 p0 p2 hlen
        go_roundw
        case rel => exact ⟨k + 1, by omega, by go_num, by rw [HS.out]; exact HO.out, hb'⟩
        case measure => simp [intOf]; omega
      · obtain rfl : k = n := by omega
        have hlen := adR_length zs k
        have X1 := Lib.hid (sorti.sort w.heap.size u4 (adR zs k) wr (by omega) hsz hown)
        clear h HL hown
        go_wp2_with fail
        refine X1.out.mono ?_
        rintro e w2 ⟨rfl, ho2, hb2⟩
        have hbw2 := hb2 _ hbw
        have hlr := sorti.rising_length (adR zs k)
        rw [← hlr] at ho2
        have X2 := Lib.hid (sorti.compact w.heap.size u4 _ w2 (by omega) hbw2.size ho2)
        have HB2 := Lib.hid hbw2
        clear ho2 hb2 hbw hbw2 hlr hlen
        rw [adR_all] at X2
        go_wp2_with fail
        refine X2.out.mono ?_
        rintro e w3 ⟨v, rfl, ho3, hb3⟩
        have HB3 := Lib.hid (hb3 _ HB2.out)
        have HO3 := Lib.hid ho3
        clear ho3 hb3
        go_wp2_with fail
        go_ret2
        exact ⟨_, rfl, by rw [ad_yes HF.out]; exact HO3.out, HB3.out⟩
end Go.Proofs.Ytpjpdfannnafbaa.frmg
