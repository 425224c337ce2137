/- For every code of at most 65536 bytes (and trivially for a longer one) the law FnTracks returns true: lines, hits and starts are those of the model; a line is read as its track and a track that is read has the line; a hit track lies at the place, has one hit more and has missed nothing; a started track makes the list longer by one, and the list is valid. The six variables of the card hold what the program lays there. -/
import Derived.Test.YtfigjfckelichaaGreatDoorCurInt
import Derived.Test.YtfigjfckelichaaGreatDoorTrcM1
import Derived.BigQuiet
import Derived.Deep.QuietTactic
import Derived.Test.YtfigjfckelichaaGreatDoorAtC
import Derived.Test.YtfigjfckelichaaGreatDoorCode
import Derived.Test.YtfigjfckelichaaGreatDoorDrawP7
import Derived.Test.YtfigjfckelichaaGreatDoorTrkS
import Derived.Test.YtfigjfckelichaaGreatDoorTrkE
import Derived.Test.YtfigjfckelichaaGreatDoorTailH
import Derived.Deep.AppendLies
import Derived.ChangeAlike
import Derived.Deep.RegionHeld3
import Derived.Deep.CutBlock
import Derived.Deep.CutRange
import Derived.Test.YtfigjfckelichaaGreatDoorTrcM2
import Derived.Test.YtfigjfckelichaaGreatDoorPlcE
import Derived.OwnWalk
import Derived.Test.YtfigjfckelichaaGreatDoorCards
import Derived.Test.YtfigjfckelichaaGreatDoorTie
import Derived.Test.YtfigjfckelichaaGreatDoorTrkG
import Derived.Test.YtfigjfckelichaaGreatDoorTrkU
import Derived.Test.YtfigjfckelichaaGreatDoorTrkZ
import Derived.Test.YtfigjfckelichaaGreatDoorTrkV
import Derived.Test.YtfigjfckelichaaGreatDoorTrkM
import Derived.Test.YtfigjfckelichaaGreatDoorVTrk
import Derived.Test.YtfigjfckelichaaGreatDoorIntC
import Derived.WalkKit
import Derived.ProofKit
import Derived.OpenShut
import Derived.ShutString
import Derived.ChangeOld
import Derived.Below
import Derived.Stop.LaidErr
import Derived.Deep.DeepHandedRow
import Derived.Lib.LaidTab
import Derived.OpenVars

/- The reader of choices, on: bit strings (bits), spoilt strings (spoilt), and texts that are mostly bit strings (anyBits). -/
namespace Go.Proofs.YtfigjfckelichaaGreatDoor.cur
open Go.RowKit Go.Proofs.YtfigjfckelichaaGreatDoor.bin

theorem grown_drewN {w w' : World} {r : Option Nat} (h : w.grownBy w' r) (k : Nat) : w.grownBy (w'.drewN k) r := ⟨h.os, h.tape, h.output, h.size, h.block⟩
theorem cur_drewN {w : World} {p m : Nat} (h : Cur w p m) (k : Nat) : Cur (w.drewN k) p m := h.keep (aid.below_drewN (Below.refl _ _) k)
def szOf : Value → Nat
  | .string x => x.size
  | _ => 0

/-- One digit 0 or 1. -/
def Bit (x : ByteArray) : Prop := x.size = 1 ∧ ok 2 x.data.toList = true
theorem bit_list : ∀ x ∈ ([⟨#[48]⟩, ⟨#[49]⟩] : List ByteArray), Bit x := by
  intro x hx
  simp at hx
  rcases hx with rfl | rfl
  · exact ⟨rfl, by decide⟩
  · exact ⟨rfl, by decide⟩
def Bits (n : Nat) (x : ByteArray) : Prop := x.size ≤ n ∧ ok 2 x.data.toList = true
theorem bit_add {x y : ByteArray} (hx : ok 2 x.data.toList = true) (hy : Bit y) : ok 2 (x ++ y).data.toList = true ∧ (x ++ y).size = x.size + 1 := by
  refine ⟨?_, ?_⟩
  · rw [aid.str_app, ok_app, hx, hy.2]; rfl
  · rw [ByteArray.size_append, hy.1]

theorem cut_size (t : ByteArray) (i : Nat) (hi : i < t.size) (x : ByteArray) (hx : x.size = 1) :
    (t.extract 0 i ++ x ++ t.extract i t.size).size ≤ t.size + 1 ∧ (t.extract 0 i ++ x ++ t.extract (i + 1) t.size).size ≤ t.size + 1 ∧ (t.extract 0 i ++ t.extract (i + 1) t.size).size ≤ t.size + 1 := by
  simp only [ByteArray.size_append, ByteArray.size_extract, hx]
  omega

theorem empty_iff (t : ByteArray) : t.toList.isEmpty = decide (t.size = 0) := by
  rw [ByteArray.toList_eq]
  obtain ⟨⟨l⟩⟩ := t
  cases l <;> simp [← ByteArray.size_data]

set_option maxHeartbeats 1000000 in
theorem spoilt (p m : Nat) (t u : ByteArray) (w : World) (h : Cur w p m) (hm : m ≤ 800000) (ht : (t.size : Int) ≤ 1000) (hu : (u.size : Int) ≤ 100) (hu0 : (1 : Int) ≤ (u.size : Int)) :
    Calls Tryz.prog 40 #[.pointer (some ⟨p, 0, none⟩), .string t, .string u] w (StrQ (fun x => x.size ≤ t.size + 1) p (m + 6) w) := by
  have HC := Lib.hid h
  clear h
  by_cases h0 : t.size = 0
  · have he : t.toList.isEmpty = true := by rw [empty_iff]; exact decide_eq_true h0
    have HS := Lib.hid (show (u.extract 0 1).size ≤ t.size + 1 by rw [ByteArray.size_extract]; omega)
    clear h0
    go_enter Tryz.func40, Tryz.ntmps40
    go_wp2_with fail
    go_ret
    exact ⟨_, rfl, HS.out, HC.out.more (by omega), World.grownBy.refl w _⟩
  · have he : t.toList.isEmpty = false := by rw [empty_iff]; exact decide_eq_false h0
    have ht0 : (1 : Int) ≤ (t.size : Int) := by omega
    clear h0
    go_enter Tryz.func40, Tryz.ntmps40
    go_wp2_with fail
    refine (pick p m (t.size : Int) w HC.out (by omega) (by omega) (by omega)).mono ?_
    rintro e w1 ⟨r, rfl, r0, r1, hc1, hg1⟩
    obtain ⟨i, rfl⟩ := Int.eq_ofNat_of_zero_le r0
    have HC1 := Lib.hid hc1
    have HG1 := Lib.hid hg1
    clear hc1 hg1 HC r0
    go_wp2_with fail
    refine (pick p (m + 2) (u.size : Int) w1 HC1.out (by omega) (by omega) (by omega)).mono ?_
    rintro e w2 ⟨q, rfl, q0, q1, hc2, hg2⟩
    obtain ⟨j, rfl⟩ := Int.eq_ofNat_of_zero_le q0
    have HC2 := Lib.hid hc2
    have HG2 := Lib.hid (grown_trans HG1.out hg2)
    clear hc2 hg2 HC1 HG1 q0
    have e1 : (j : Int) ≤ (u.size : Int) := by omega
    have e2 : (1 : Int) ≤ ((u.extract j u.size).size : Int) := by rw [ByteArray.size_extract]; omega
    have HX := Lib.hid (show ((u.extract j u.size).extract 0 1).size = 1 by rw [ByteArray.size_extract, ByteArray.size_extract]; omega)
    go_wp2_with fail
    generalize (u.extract j u.size).extract 0 1 = y at *
    refine (pick p (m + 4) 3 w2 HC2.out (by omega) (by omega) (by omega)).mono ?_
    rintro e w3 ⟨v, rfl, v0, v1, hc3, hg3⟩
    have HC3 := Lib.hid hc3
    have HG3 := Lib.hid (grown_trans HG2.out hg3)
    clear hc3 hg3 HC2 HG2 e1 e2
    have hi : (i : Int) ≤ (t.size : Int) := by omega
    have hi1 : (i : Int) + 1 ≤ (t.size : Int) := by omega
    have hi2 : IntKind.i64.wrap ((i : Int) + 1) = (i : Int) + 1 := IntWalk.i64_in _ (by omega)
    obtain ⟨s1, s2, s3⟩ := cut_size t i (by omega) y HX.out
    have S1 := Lib.hid s1
    have S2 := Lib.hid s2
    have S3 := Lib.hid s3
    clear s1 s2 s3
    have hys : y.size = 1 := HX.out
    obtain rfl | rfl | rfl : v = 0 ∨ v = 1 ∨ v = 2 := by omega
    · clear v0 v1
      go_wp2_with fail
      go_quiet (fail)
      go_wp2_with fail
      go_ret
      exact ⟨_, rfl, S1.out, cur_drewN HC3.out _, grown_drewN HG3.out _⟩
    · clear v0 v1
      go_wp2_with fail
      go_quiet (fail)
      go_wp2_with fail
      go_ret
      exact ⟨_, rfl, S2.out, cur_drewN HC3.out _, grown_drewN HG3.out _⟩
    · clear v0 v1
      go_wp2_with fail
      go_quiet (fail)
      go_wp2_with fail
      go_ret
      exact ⟨_, rfl, S3.out, cur_drewN HC3.out _, grown_drewN HG3.out _⟩

end Go.Proofs.YtfigjfckelichaaGreatDoor.cur

/- spec's draws of tracks. -/
namespace Go.Proofs.YtfigjfckelichaaGreatDoor.draws14
open Go.RowKit Go.Proofs.YtfigjfckelichaaGreatDoor.cur Go.Proofs.YtfigjfckelichaaGreatDoor.atc Go.Proofs.YtfigjfckelichaaGreatDoor.ats Go.Proofs.YtfigjfckelichaaGreatDoor.ints Go.Proofs.YtfigjfckelichaaGreatDoor.lst Go.Proofs.YtfigjfckelichaaGreatDoor.code_ Go.Proofs.YtfigjfckelichaaGreatDoor.tailh

def TrackQ (p m : Nat) (w : World) (e : Ending) (w' : World) : Prop := ∃ a b c d h l : Int, e = .returned (.agg #[.int .i64 a, .int .i64 b, .int .i64 c, .int .i64 d, .int .i64 h, .int .i64 l]) ∧ Cur w' p m ∧ w.grownBy w' (some p)

theorem grown_put {w W : World} {p b i : Nat} {v : Value} (h : w.grownBy W (some p)) (hb : w.heap.size ≤ b) : w.grownBy (W.setCell ⟨b, i, none⟩ v) (some p) :=
  ⟨h.os, h.tape, h.output, by have := h.size; simpa [World.setCell] using this, fun k hk hne => (Go.Deep.blk_setCell_other W ⟨b, i, none⟩ v k (by show k ≠ b; omega)).trans (h.block k hk hne)⟩
theorem grown_dr {w W : World} {p : Nat} (h : w.grownBy W (some p)) : w.grownBy W.drew (some p) := ⟨h.os, h.tape, h.output, h.size, h.block⟩

set_option maxRecDepth 100000 in
set_option maxHeartbeats 16000000 in
theorem track (p m : Nat) (w : World) (h : Cur w p m) (hm : m ≤ 200000) :
    Calls Tryz.prog 38 #[.pointer (some ⟨p, 0, none⟩)] w (TrackQ p (m + 30) w) := by
  have hzp : p < w.heap.size := h.lt
  have Z0 := Lib.hid (Blk.new 25 #[.int .i64 0, .int .i64 0, .int .i64 0, .int .i64 0, .int .i64 0, .int .i64 0] w)
  have C0 := Lib.hid (Cur.alloc h (.cells #[.int .i64 0, .int .i64 0, .int .i64 0, .int .i64 0, .int .i64 0, .int .i64 0] 25))
  have G0 := Lib.hid (show w.grownBy (w.alloc (.cells #[.int .i64 0, .int .i64 0, .int .i64 0, .int .i64 0, .int .i64 0, .int .i64 0] 25)) (some p) from grown_alloc _ _)
  clear h
  go_enter Tryz.func38, Tryz.ntmps38
  go_wp2_with fail
  generalize w.alloc (.cells #[.int .i64 0, .int .i64 0, .int .i64 0, .int .i64 0, .int .i64 0, .int .i64 0] 25) = W0 at *
  refine (drawp7.place p m W0 C0.out (by omega)).mono ?_
  rintro e w1 ⟨x, y, rfl, -, hc, hg⟩
  have Z1 := Lib.hid ((Z0.out.grown hg (Nat.ne_of_gt hzp)).alloc (.cells #[.int .i64 x, .int .i64 y] 35))
  have P2 := Lib.hid (Blk.new 35 #[.int .i64 x, .int .i64 y] w1)
  have C2 := Lib.hid (Cur.alloc hc (.cells #[.int .i64 x, .int .i64 y] 35))
  have hpp : p < w1.heap.size := hc.lt
  have G2 := Lib.hid (grown_trans (grown_trans G0.out hg) (grown_alloc (.cells #[.int .i64 x, .int .i64 y] 35) (some p)))
  clear hc hg Z0 C0 G0
  go_upto_region 2 with fail
  generalize w1.alloc (.cells #[.int .i64 x, .int .i64 y] 35) = W1 at *
  generalize w1.heap.size = pb at *
  go_cut [4] from 7 to 17 (fun v wx => ∃ b i s, v = .pointer (some ⟨b, 0, none⟩) ∧ p < b ∧ w.heap.size < b ∧ Blk 25 #[.int .i64 i, .int .i64 s, .int .i64 x, .int .i64 y, .int .i64 0, .int .i64 0] wx b ∧ Blk 25 #[.int .i64 0, .int .i64 0, .int .i64 0, .int .i64 0, .int .i64 0, .int .i64 0] wx w.heap.size ∧ Cur wx p (m + 14) ∧ w.grownBy wx (some p))
  case first =>
    have P2 := Lib.hid P2.out.drew
    have Z2 := Lib.hid Z1.out.drew
    have C2 := Lib.hid (C2.out.keep ((Below.refl (p + 1) W1).drew))
    have G2 := Lib.hid (grown_dr G2.out)
    clear Z1
    refine wp_region_tail (S := fun w' => Blk 35 #[.int .i64 x, .int .i64 y] w' pb) 12 (by kernel_rfl) P2.out (fun hHeld => ?_)
    generalize W1.drew = W2 at *
    try simp only [Act.put]
    refine wpAnyE_take (i := 0) (v := ?vqz0) rfl (by decide +kernel) (fun _ _ _ h => h) (Or.inl ⟨by rfl, ?hqz0⟩) (by assumption) ?rqz0
    case hqz0 =>
      intro wS hSw
      have h0 := hSw.cell 0 _ rfl
      have h1 := hSw.cell 1 _ rfl
      go_simp
      try with_reducible rfl
    try simp only [Act.put]
    refine wpAnyE_take (i := 3) (v := ?vqz3) rfl (by decide +kernel) (fun _ _ _ h => h) (Or.inl ⟨by rfl, ?hqz3⟩) (by assumption) ?rqz3
    case hqz3 =>
      intro wS hSw
      have h0 := hSw.cell 0 _ rfl
      have h1 := hSw.cell 1 _ rfl
      go_simp
      try with_reducible rfl
    try simp only [Act.put]
    refine wpAnyE_take (i := 6) (v := ?vqz6) rfl (by decide +kernel) (fun _ _ _ h => h) (Or.inl ⟨by rfl, ?hqz6⟩) (by assumption) ?rqz6
    case hqz6 =>
      intro wS hSw
      have h0 := hSw.cell 0 _ rfl
      have h1 := hSw.cell 1 _ rfl
      go_simp
      try with_reducible rfl
    try simp only [Act.put]
    refine wpAnyE_take (i := 7) (v := ?vqz7) rfl (by decide +kernel) (fun _ _ _ h => h) (Or.inl ⟨by rfl, ?hqz7⟩) (by assumption) ?rqz7
    case hqz7 =>
      intro wS hSw
      have h0 := hSw.cell 0 _ rfl
      have h1 := hSw.cell 1 _ rfl
      go_simp
      try with_reducible rfl
    try simp only [Act.put]
    refine wpAnyE_take (i := 8) (v := ?vqz8) rfl (by decide +kernel) (fun _ _ _ h => h) (Or.inl ⟨by rfl, ?hqz8⟩) (by assumption) ?rqz8
    case hqz8 =>
      intro wS hSw
      have h0 := hSw.cell 0 _ rfl
      have h1 := hSw.cell 1 _ rfl
      go_simp
      try with_reducible rfl
    try simp only [Act.put]
    refine wpAnyE_take (i := 9) (v := ?vqz9) rfl (by decide +kernel) (fun _ _ _ h => h) (Or.inl ⟨by rfl, ?hqz9⟩) (by assumption) ?rqz9
    case hqz9 =>
      intro wS hSw
      have h0 := hSw.cell 0 _ rfl
      have h1 := hSw.cell 1 _ rfl
      go_simp
      try with_reducible rfl
    try simp only [Act.put]
    refine wpAnyE_ready (rs := [1, 11]) (by kernel_rfl) (by simp) ?_
    refine AllReadyE.cons (i := 1) rfl (by decide) (fun K hK => ?_) (AllReadyE.cons (i := 11) rfl (by decide) (fun K hK => ?_) AllReadyE.nil)
    · go_simp
      refine (pick p _ 20 W2 C2.out (by omega) (by omega) (by omega)).mono ?_
      rintro e Woa ⟨i, rfl, i0, i1, hc, hg⟩
      have Poa := Lib.hid (P2.out.grown hg (Nat.ne_of_gt hpp))
      have Zoa := Lib.hid (Z2.out.grown hg (Nat.ne_of_gt hzp))
      have Goa := Lib.hid (grown_trans G2.out hg)
      have Coa := Lib.hid hc
      clear hc hg
      refine hK.out _ _ Poa.out (fun hHeld => ?_)
      clear hK K
      try simp only [Act.put]
      refine wpAnyE_take (i := 2) (v := ?vqoa2) rfl (by decide +kernel) (fun _ _ _ h => h) (Or.inl ⟨by rfl, ?hqoa2⟩) (by assumption) ?rqoa2
      case hqoa2 =>
        intro wS hSw
        have h0 := hSw.cell 0 _ rfl
        have h1 := hSw.cell 1 _ rfl
        go_simp
        try with_reducible rfl
      try simp only [Act.put]
      refine wpAnyE_ready (rs := [4, 11]) (by kernel_rfl) (by simp) ?_
      refine AllReadyE.cons (i := 4) rfl (by decide) (fun K hK => ?_) (AllReadyE.cons (i := 11) rfl (by decide) (fun K hK => ?_) AllReadyE.nil)
      · go_simp
        refine (pick p _ 3 Woa Coa.out (by omega) (by omega) (by omega)).mono ?_
        rintro e Woab ⟨s, rfl, s0, s1, hc, hg⟩
        have Poab := Lib.hid (Poa.out.grown hg (Nat.ne_of_gt hpp))
        have Zoab := Lib.hid (Zoa.out.grown hg (Nat.ne_of_gt hzp))
        have Goab := Lib.hid (grown_trans Goa.out hg)
        have Coab := Lib.hid hc
        clear hc hg
        refine hK.out _ _ Poab.out (fun hHeld => ?_)
        clear hK K
        try simp only [Act.put]
        refine wpAnyE_take (i := 5) (v := ?vqoab5) rfl (by decide +kernel) (fun _ _ _ h => h) (Or.inl ⟨by rfl, ?hqoab5⟩) (by assumption) ?rqoab5
        case hqoab5 =>
          intro wS hSw
          have h0 := hSw.cell 0 _ rfl
          have h1 := hSw.cell 1 _ rfl
          go_simp
          try with_reducible rfl
        try simp only [Act.put]
        refine wpAnyE_take (i := 10) (v := ?vqoab10) rfl (by decide +kernel) (fun _ _ _ h => h) (Or.inl ⟨by rfl, ?hqoab10⟩) (by assumption) ?rqoab10
        case hqoab10 =>
          intro wS hSw
          have h0 := hSw.cell 0 _ rfl
          have h1 := hSw.cell 1 _ rfl
          go_simp
          try with_reducible rfl
        try simp only [Act.put]
        refine wpAnyE_ready (rs := [11]) (by kernel_rfl) (by simp) ?_
        refine AllReadyE.cons (i := 11) rfl (by decide) (fun K hK => ?_) AllReadyE.nil
        go_simp
        have hszoabc := Poab.out.lt
        have htp : p < Woab.heap.size := Nat.lt_trans hpp Poab.out.lt
        have hzt : w.heap.size < Woab.heap.size := Zoab.out.lt
        have Poabc := Lib.hid (Poab.out.alloc (.cells #[.int .i64 0, .int .i64 0, .int .i64 0, .int .i64 0, .int .i64 0, .int .i64 0] 25))
        have Zoabc := Lib.hid (Zoab.out.alloc (.cells #[.int .i64 0, .int .i64 0, .int .i64 0, .int .i64 0, .int .i64 0, .int .i64 0] 25))
        have Goabc := Lib.hid (grown_trans Goab.out (grown_alloc (.cells #[.int .i64 0, .int .i64 0, .int .i64 0, .int .i64 0, .int .i64 0, .int .i64 0] 25) (some p)))
        have Coabc := Lib.hid (Cur.alloc Coab.out (.cells #[.int .i64 0, .int .i64 0, .int .i64 0, .int .i64 0, .int .i64 0, .int .i64 0] 25))
        have Toabc := Lib.hid (Blk.new 25 #[.int .i64 0, .int .i64 0, .int .i64 0, .int .i64 0, .int .i64 0, .int .i64 0] Woab)
        clear hszoabc
        refine hK.out _ _ Poabc.out (fun hHeld => ?_)
        clear hK K
        try simp only [Act.put]
        generalize Woab.alloc (.cells #[.int .i64 0, .int .i64 0, .int .i64 0, .int .i64 0, .int .i64 0, .int .i64 0] 25) = Voabc at *
        generalize Woab.heap.size = boabc at *
        have s0 : Voabc.cell? ⟨boabc, 0, none⟩ = some (.int .i64 0) := Toabc.out.cell 0 _ rfl
        have sf0 := Toabc.out.frozen 0
        have s1 : Voabc.cell? ⟨boabc, 1, none⟩ = some (.int .i64 0) := Toabc.out.cell 1 _ rfl
        have sf1 := Toabc.out.frozen 1
        have s2 : Voabc.cell? ⟨boabc, 2, none⟩ = some (.int .i64 0) := Toabc.out.cell 2 _ rfl
        have sf2 := Toabc.out.frozen 2
        have s3 : Voabc.cell? ⟨boabc, 3, none⟩ = some (.int .i64 0) := Toabc.out.cell 3 _ rfl
        have sf3 := Toabc.out.frozen 3
        have s4 : Voabc.cell? ⟨boabc, 4, none⟩ = some (.int .i64 0) := Toabc.out.cell 4 _ rfl
        have sf4 := Toabc.out.frozen 4
        have s5 : Voabc.cell? ⟨boabc, 5, none⟩ = some (.int .i64 0) := Toabc.out.cell 5 _ rfl
        have sf5 := Toabc.out.frozen 5
        refine wpAnyE_ready (rs := [12]) (by kernel_rfl) (by simp) ?_
        refine AllReadyE.last (i := 12) rfl rfl (fun K hK => ?_)
        go_simp
        refine hK.out _ _ ?_
        clear hK K
        try simp only [Act.put]
        refine wpAnyE_done (by kernel_rfl) ?_ _
        try simp only [List.getElem_toArray, List.getElem_cons_succ, List.getElem_cons_zero, List.setIfInBounds_toArray, List.set_cons_succ, List.set_cons_zero]
        go_wp2_with fail
        go_meet
        exact ⟨_, _, _, rfl, htp, hzt, ((((((Toabc.out.set 0 (.int .i64 (IntKind.i64.wrap (1 + i)))).set 1 (.int .i64 (IntKind.i64.wrap (1 + s)))).set 2 (.int .i64 x)).set 3 (.int .i64 y)).set 4 (.int .i64 0)).set 5 (.int .i64 0)), ((((((Zoabc.out.other (Nat.ne_of_lt hzt) 0 (.int .i64 (IntKind.i64.wrap (1 + i)))).other (Nat.ne_of_lt hzt) 1 (.int .i64 (IntKind.i64.wrap (1 + s)))).other (Nat.ne_of_lt hzt) 2 (.int .i64 x)).other (Nat.ne_of_lt hzt) 3 (.int .i64 y)).other (Nat.ne_of_lt hzt) 4 (.int .i64 0)).other (Nat.ne_of_lt hzt) 5 (.int .i64 0)), (Cur.set (Cur.set (Cur.set (Cur.set (Cur.set (Cur.set Coabc.out htp (i := 0) (v := .int .i64 (IntKind.i64.wrap (1 + i)))) htp (i := 1) (v := .int .i64 (IntKind.i64.wrap (1 + s)))) htp (i := 2) (v := .int .i64 x)) htp (i := 3) (v := .int .i64 y)) htp (i := 4) (v := .int .i64 0)) htp (i := 5) (v := .int .i64 0)).more (by omega), (grown_put (grown_put (grown_put (grown_put (grown_put (grown_put Goabc.out (Nat.le_of_lt hzt) (i := 0) (v := .int .i64 (IntKind.i64.wrap (1 + i)))) (Nat.le_of_lt hzt) (i := 1) (v := .int .i64 (IntKind.i64.wrap (1 + s)))) (Nat.le_of_lt hzt) (i := 2) (v := .int .i64 x)) (Nat.le_of_lt hzt) (i := 3) (v := .int .i64 y)) (Nat.le_of_lt hzt) (i := 4) (v := .int .i64 0)) (Nat.le_of_lt hzt) (i := 5) (v := .int .i64 0))⟩
      · go_simp
        have hszoac := Poa.out.lt
        have htp : p < Woa.heap.size := Nat.lt_trans hpp Poa.out.lt
        have hzt : w.heap.size < Woa.heap.size := Zoa.out.lt
        have Poac := Lib.hid (Poa.out.alloc (.cells #[.int .i64 0, .int .i64 0, .int .i64 0, .int .i64 0, .int .i64 0, .int .i64 0] 25))
        have Zoac := Lib.hid (Zoa.out.alloc (.cells #[.int .i64 0, .int .i64 0, .int .i64 0, .int .i64 0, .int .i64 0, .int .i64 0] 25))
        have Goac := Lib.hid (grown_trans Goa.out (grown_alloc (.cells #[.int .i64 0, .int .i64 0, .int .i64 0, .int .i64 0, .int .i64 0, .int .i64 0] 25) (some p)))
        have Coac := Lib.hid (Cur.alloc Coa.out (.cells #[.int .i64 0, .int .i64 0, .int .i64 0, .int .i64 0, .int .i64 0, .int .i64 0] 25))
        have Toac := Lib.hid (Blk.new 25 #[.int .i64 0, .int .i64 0, .int .i64 0, .int .i64 0, .int .i64 0, .int .i64 0] Woa)
        clear hszoac
        refine hK.out _ _ Poac.out (fun hHeld => ?_)
        clear hK K
        try simp only [Act.put]
        generalize Woa.alloc (.cells #[.int .i64 0, .int .i64 0, .int .i64 0, .int .i64 0, .int .i64 0, .int .i64 0] 25) = Voac at *
        generalize Woa.heap.size = boac at *
        refine wpAnyE_ready (rs := [4]) (by kernel_rfl) (by simp) ?_
        refine AllReadyE.cons (i := 4) rfl (by decide) (fun K hK => ?_) AllReadyE.nil
        go_simp
        refine (pick p _ 3 Voac Coac.out (by omega) (by omega) (by omega)).mono ?_
        rintro e Woacb ⟨s, rfl, s0, s1, hc, hg⟩
        have Poacb := Lib.hid (Poac.out.grown hg (Nat.ne_of_gt hpp))
        have Zoacb := Lib.hid (Zoac.out.grown hg (Nat.ne_of_gt hzp))
        have Goacb := Lib.hid (grown_trans Goac.out hg)
        have Coacb := Lib.hid hc
        have Toacb := Lib.hid (Toac.out.grown hg (Nat.ne_of_gt htp))
        clear hc hg
        refine hK.out _ _ Poacb.out (fun hHeld => ?_)
        clear hK K
        try simp only [Act.put]
        refine wpAnyE_take (i := 5) (v := ?vqoacb5) rfl (by decide +kernel) (fun _ _ _ h => h) (Or.inl ⟨by rfl, ?hqoacb5⟩) (by assumption) ?rqoacb5
        case hqoacb5 =>
          intro wS hSw
          have h0 := hSw.cell 0 _ rfl
          have h1 := hSw.cell 1 _ rfl
          go_simp
          try with_reducible rfl
        try simp only [Act.put]
        refine wpAnyE_take (i := 10) (v := ?vqoacb10) rfl (by decide +kernel) (fun _ _ _ h => h) (Or.inl ⟨by rfl, ?hqoacb10⟩) (by assumption) ?rqoacb10
        case hqoacb10 =>
          intro wS hSw
          have h0 := hSw.cell 0 _ rfl
          have h1 := hSw.cell 1 _ rfl
          go_simp
          try with_reducible rfl
        try simp only [Act.put]
        have s0 : Woacb.cell? ⟨boac, 0, none⟩ = some (.int .i64 0) := Toacb.out.cell 0 _ rfl
        have sf0 := Toacb.out.frozen 0
        have s1 : Woacb.cell? ⟨boac, 1, none⟩ = some (.int .i64 0) := Toacb.out.cell 1 _ rfl
        have sf1 := Toacb.out.frozen 1
        have s2 : Woacb.cell? ⟨boac, 2, none⟩ = some (.int .i64 0) := Toacb.out.cell 2 _ rfl
        have sf2 := Toacb.out.frozen 2
        have s3 : Woacb.cell? ⟨boac, 3, none⟩ = some (.int .i64 0) := Toacb.out.cell 3 _ rfl
        have sf3 := Toacb.out.frozen 3
        have s4 : Woacb.cell? ⟨boac, 4, none⟩ = some (.int .i64 0) := Toacb.out.cell 4 _ rfl
        have sf4 := Toacb.out.frozen 4
        have s5 : Woacb.cell? ⟨boac, 5, none⟩ = some (.int .i64 0) := Toacb.out.cell 5 _ rfl
        have sf5 := Toacb.out.frozen 5
        refine wpAnyE_ready (rs := [12]) (by kernel_rfl) (by simp) ?_
        refine AllReadyE.last (i := 12) rfl rfl (fun K hK => ?_)
        go_simp
        refine hK.out _ _ ?_
        clear hK K
        try simp only [Act.put]
        refine wpAnyE_done (by kernel_rfl) ?_ _
        try simp only [List.getElem_toArray, List.getElem_cons_succ, List.getElem_cons_zero, List.setIfInBounds_toArray, List.set_cons_succ, List.set_cons_zero]
        go_wp2_with fail
        go_meet
        exact ⟨_, _, _, rfl, htp, hzt, ((((((Toacb.out.set 0 (.int .i64 (IntKind.i64.wrap (1 + i)))).set 1 (.int .i64 (IntKind.i64.wrap (1 + s)))).set 2 (.int .i64 x)).set 3 (.int .i64 y)).set 4 (.int .i64 0)).set 5 (.int .i64 0)), ((((((Zoacb.out.other (Nat.ne_of_lt hzt) 0 (.int .i64 (IntKind.i64.wrap (1 + i)))).other (Nat.ne_of_lt hzt) 1 (.int .i64 (IntKind.i64.wrap (1 + s)))).other (Nat.ne_of_lt hzt) 2 (.int .i64 x)).other (Nat.ne_of_lt hzt) 3 (.int .i64 y)).other (Nat.ne_of_lt hzt) 4 (.int .i64 0)).other (Nat.ne_of_lt hzt) 5 (.int .i64 0)), (Cur.set (Cur.set (Cur.set (Cur.set (Cur.set (Cur.set Coacb.out htp (i := 0) (v := .int .i64 (IntKind.i64.wrap (1 + i)))) htp (i := 1) (v := .int .i64 (IntKind.i64.wrap (1 + s)))) htp (i := 2) (v := .int .i64 x)) htp (i := 3) (v := .int .i64 y)) htp (i := 4) (v := .int .i64 0)) htp (i := 5) (v := .int .i64 0)).more (by omega), (grown_put (grown_put (grown_put (grown_put (grown_put (grown_put Goacb.out (Nat.le_of_lt hzt) (i := 0) (v := .int .i64 (IntKind.i64.wrap (1 + i)))) (Nat.le_of_lt hzt) (i := 1) (v := .int .i64 (IntKind.i64.wrap (1 + s)))) (Nat.le_of_lt hzt) (i := 2) (v := .int .i64 x)) (Nat.le_of_lt hzt) (i := 3) (v := .int .i64 y)) (Nat.le_of_lt hzt) (i := 4) (v := .int .i64 0)) (Nat.le_of_lt hzt) (i := 5) (v := .int .i64 0))⟩
    · go_simp
      have hszoc := P2.out.lt
      have htp : p < W2.heap.size := Nat.lt_trans hpp P2.out.lt
      have hzt : w.heap.size < W2.heap.size := Z2.out.lt
      have Poc := Lib.hid (P2.out.alloc (.cells #[.int .i64 0, .int .i64 0, .int .i64 0, .int .i64 0, .int .i64 0, .int .i64 0] 25))
      have Zoc := Lib.hid (Z2.out.alloc (.cells #[.int .i64 0, .int .i64 0, .int .i64 0, .int .i64 0, .int .i64 0, .int .i64 0] 25))
      have Goc := Lib.hid (grown_trans G2.out (grown_alloc (.cells #[.int .i64 0, .int .i64 0, .int .i64 0, .int .i64 0, .int .i64 0, .int .i64 0] 25) (some p)))
      have Coc := Lib.hid (Cur.alloc C2.out (.cells #[.int .i64 0, .int .i64 0, .int .i64 0, .int .i64 0, .int .i64 0, .int .i64 0] 25))
      have Toc := Lib.hid (Blk.new 25 #[.int .i64 0, .int .i64 0, .int .i64 0, .int .i64 0, .int .i64 0, .int .i64 0] W2)
      clear hszoc
      refine hK.out _ _ Poc.out (fun hHeld => ?_)
      clear hK K
      try simp only [Act.put]
      generalize W2.alloc (.cells #[.int .i64 0, .int .i64 0, .int .i64 0, .int .i64 0, .int .i64 0, .int .i64 0] 25) = Voc at *
      generalize W2.heap.size = boc at *
      refine wpAnyE_ready (rs := [1]) (by kernel_rfl) (by simp) ?_
      refine AllReadyE.cons (i := 1) rfl (by decide) (fun K hK => ?_) AllReadyE.nil
      go_simp
      refine (pick p _ 20 Voc Coc.out (by omega) (by omega) (by omega)).mono ?_
      rintro e Woca ⟨i, rfl, i0, i1, hc, hg⟩
      have Poca := Lib.hid (Poc.out.grown hg (Nat.ne_of_gt hpp))
      have Zoca := Lib.hid (Zoc.out.grown hg (Nat.ne_of_gt hzp))
      have Goca := Lib.hid (grown_trans Goc.out hg)
      have Coca := Lib.hid hc
      have Toca := Lib.hid (Toc.out.grown hg (Nat.ne_of_gt htp))
      clear hc hg
      refine hK.out _ _ Poca.out (fun hHeld => ?_)
      clear hK K
      try simp only [Act.put]
      refine wpAnyE_take (i := 2) (v := ?vqoca2) rfl (by decide +kernel) (fun _ _ _ h => h) (Or.inl ⟨by rfl, ?hqoca2⟩) (by assumption) ?rqoca2
      case hqoca2 =>
        intro wS hSw
        have h0 := hSw.cell 0 _ rfl
        have h1 := hSw.cell 1 _ rfl
        go_simp
        try with_reducible rfl
      try simp only [Act.put]
      refine wpAnyE_ready (rs := [4]) (by kernel_rfl) (by simp) ?_
      refine AllReadyE.cons (i := 4) rfl (by decide) (fun K hK => ?_) AllReadyE.nil
      go_simp
      refine (pick p _ 3 Woca Coca.out (by omega) (by omega) (by omega)).mono ?_
      rintro e Wocab ⟨s, rfl, s0, s1, hc, hg⟩
      have Pocab := Lib.hid (Poca.out.grown hg (Nat.ne_of_gt hpp))
      have Zocab := Lib.hid (Zoca.out.grown hg (Nat.ne_of_gt hzp))
      have Gocab := Lib.hid (grown_trans Goca.out hg)
      have Cocab := Lib.hid hc
      have Tocab := Lib.hid (Toca.out.grown hg (Nat.ne_of_gt htp))
      clear hc hg
      refine hK.out _ _ Pocab.out (fun hHeld => ?_)
      clear hK K
      try simp only [Act.put]
      refine wpAnyE_take (i := 5) (v := ?vqocab5) rfl (by decide +kernel) (fun _ _ _ h => h) (Or.inl ⟨by rfl, ?hqocab5⟩) (by assumption) ?rqocab5
      case hqocab5 =>
        intro wS hSw
        have h0 := hSw.cell 0 _ rfl
        have h1 := hSw.cell 1 _ rfl
        go_simp
        try with_reducible rfl
      try simp only [Act.put]
      refine wpAnyE_take (i := 10) (v := ?vqocab10) rfl (by decide +kernel) (fun _ _ _ h => h) (Or.inl ⟨by rfl, ?hqocab10⟩) (by assumption) ?rqocab10
      case hqocab10 =>
        intro wS hSw
        have h0 := hSw.cell 0 _ rfl
        have h1 := hSw.cell 1 _ rfl
        go_simp
        try with_reducible rfl
      try simp only [Act.put]
      have s0 : Wocab.cell? ⟨boc, 0, none⟩ = some (.int .i64 0) := Tocab.out.cell 0 _ rfl
      have sf0 := Tocab.out.frozen 0
      have s1 : Wocab.cell? ⟨boc, 1, none⟩ = some (.int .i64 0) := Tocab.out.cell 1 _ rfl
      have sf1 := Tocab.out.frozen 1
      have s2 : Wocab.cell? ⟨boc, 2, none⟩ = some (.int .i64 0) := Tocab.out.cell 2 _ rfl
      have sf2 := Tocab.out.frozen 2
      have s3 : Wocab.cell? ⟨boc, 3, none⟩ = some (.int .i64 0) := Tocab.out.cell 3 _ rfl
      have sf3 := Tocab.out.frozen 3
      have s4 : Wocab.cell? ⟨boc, 4, none⟩ = some (.int .i64 0) := Tocab.out.cell 4 _ rfl
      have sf4 := Tocab.out.frozen 4
      have s5 : Wocab.cell? ⟨boc, 5, none⟩ = some (.int .i64 0) := Tocab.out.cell 5 _ rfl
      have sf5 := Tocab.out.frozen 5
      refine wpAnyE_ready (rs := [12]) (by kernel_rfl) (by simp) ?_
      refine AllReadyE.last (i := 12) rfl rfl (fun K hK => ?_)
      go_simp
      refine hK.out _ _ ?_
      clear hK K
      try simp only [Act.put]
      refine wpAnyE_done (by kernel_rfl) ?_ _
      try simp only [List.getElem_toArray, List.getElem_cons_succ, List.getElem_cons_zero, List.setIfInBounds_toArray, List.set_cons_succ, List.set_cons_zero]
      go_wp2_with fail
      go_meet
      exact ⟨_, _, _, rfl, htp, hzt, ((((((Tocab.out.set 0 (.int .i64 (IntKind.i64.wrap (1 + i)))).set 1 (.int .i64 (IntKind.i64.wrap (1 + s)))).set 2 (.int .i64 x)).set 3 (.int .i64 y)).set 4 (.int .i64 0)).set 5 (.int .i64 0)), ((((((Zocab.out.other (Nat.ne_of_lt hzt) 0 (.int .i64 (IntKind.i64.wrap (1 + i)))).other (Nat.ne_of_lt hzt) 1 (.int .i64 (IntKind.i64.wrap (1 + s)))).other (Nat.ne_of_lt hzt) 2 (.int .i64 x)).other (Nat.ne_of_lt hzt) 3 (.int .i64 y)).other (Nat.ne_of_lt hzt) 4 (.int .i64 0)).other (Nat.ne_of_lt hzt) 5 (.int .i64 0)), (Cur.set (Cur.set (Cur.set (Cur.set (Cur.set (Cur.set Cocab.out htp (i := 0) (v := .int .i64 (IntKind.i64.wrap (1 + i)))) htp (i := 1) (v := .int .i64 (IntKind.i64.wrap (1 + s)))) htp (i := 2) (v := .int .i64 x)) htp (i := 3) (v := .int .i64 y)) htp (i := 4) (v := .int .i64 0)) htp (i := 5) (v := .int .i64 0)).more (by omega), (grown_put (grown_put (grown_put (grown_put (grown_put (grown_put Gocab.out (Nat.le_of_lt hzt) (i := 0) (v := .int .i64 (IntKind.i64.wrap (1 + i)))) (Nat.le_of_lt hzt) (i := 1) (v := .int .i64 (IntKind.i64.wrap (1 + s)))) (Nat.le_of_lt hzt) (i := 2) (v := .int .i64 x)) (Nat.le_of_lt hzt) (i := 3) (v := .int .i64 y)) (Nat.le_of_lt hzt) (i := 4) (v := .int .i64 0)) (Nat.le_of_lt hzt) (i := 5) (v := .int .i64 0))⟩
  case rest =>
    obtain ⟨b, i, s, rfl, htp, hzt, hT, hZ, hC, hG⟩ := hcut
    have HT := Lib.hid hT
    have HZ := Lib.hid hZ
    have HC := Lib.hid hC
    have HG := Lib.hid hG
    clear hT hZ hC hG P2 Z1 C2 G2
    have t0 : wc.cell? ⟨b, 0, none⟩ = some (.int .i64 i) := HT.out.cell 0 _ rfl
    have tf0 := HT.out.frozen 0
    have t1 : wc.cell? ⟨b, 1, none⟩ = some (.int .i64 s) := HT.out.cell 1 _ rfl
    have tf1 := HT.out.frozen 1
    have t2 : wc.cell? ⟨b, 2, none⟩ = some (.int .i64 x) := HT.out.cell 2 _ rfl
    have tf2 := HT.out.frozen 2
    have t3 : wc.cell? ⟨b, 3, none⟩ = some (.int .i64 y) := HT.out.cell 3 _ rfl
    have tf3 := HT.out.frozen 3
    have t4 : wc.cell? ⟨b, 4, none⟩ = some (.int .i64 0) := HT.out.cell 4 _ rfl
    have tf4 := HT.out.frozen 4
    have t5 : wc.cell? ⟨b, 5, none⟩ = some (.int .i64 0) := HT.out.cell 5 _ rfl
    have tf5 := HT.out.frozen 5
    by_cases g1 : s = 1
    · subst g1
      go_wp2_with fail
      refine (pick p _ 2 wc HC.out (by omega) (by omega) (by omega)).mono ?_
      rintro e wr ⟨r, rfl, r0, r1, hc, hg⟩
      clear t0 tf0 t1 tf1 t2 tf2 t3 tf3 t4 tf4 t5 tf5
      have HT := Lib.hid (HT.out.grown hg (Nat.ne_of_gt htp))
      have HZ := Lib.hid (HZ.out.grown hg (Nat.ne_of_gt hzp))
      have HC := Lib.hid hc
      have HG := Lib.hid (grown_trans HG.out hg)
      clear hc hg
      have e1 : IntKind.i64.wrap (1 + r) = 1 + r := IntWalk.i64_in _ (by omega)
      have t0 : wr.cell? ⟨b, 0, none⟩ = some (.int .i64 i) := HT.out.cell 0 _ rfl
      have tf0 := HT.out.frozen 0
      have t1 : wr.cell? ⟨b, 1, none⟩ = some (.int .i64 1) := HT.out.cell 1 _ rfl
      have tf1 := HT.out.frozen 1
      have t2 : wr.cell? ⟨b, 2, none⟩ = some (.int .i64 x) := HT.out.cell 2 _ rfl
      have tf2 := HT.out.frozen 2
      have t3 : wr.cell? ⟨b, 3, none⟩ = some (.int .i64 y) := HT.out.cell 3 _ rfl
      have tf3 := HT.out.frozen 3
      have t4 : wr.cell? ⟨b, 4, none⟩ = some (.int .i64 0) := HT.out.cell 4 _ rfl
      have tf4 := HT.out.frozen 4
      have t5 : wr.cell? ⟨b, 5, none⟩ = some (.int .i64 0) := HT.out.cell 5 _ rfl
      have tf5 := HT.out.frozen 5
      go_upto_region 10 with fail
      clear t0 tf0 t1 tf1 t2 tf2 t3 tf3 t4 tf4 t5 tf5
      have HT := Lib.hid (HT.out.set 4 (.int .i64 (1 + r)))
      have HZ := Lib.hid (HZ.out.other (Nat.ne_of_lt hzt) 4 (.int .i64 (1 + r)))
      have HC := Lib.hid (Cur.set HC.out htp (i := 4) (v := .int .i64 (1 + r)))
      have HG := Lib.hid (grown_put HG.out (Nat.le_of_lt hzt) (i := 4) (v := .int .i64 (1 + r)))
      generalize wr.setCell ⟨b, 4, none⟩ (.int .i64 (1 + r)) = wrv at *
      generalize 1 + r = c4 at *
      clear e1 r0 r1
      have t0 : wrv.cell? ⟨b, 0, none⟩ = some (.int .i64 i) := HT.out.cell 0 _ rfl
      have tf0 := HT.out.frozen 0
      have t1 : wrv.cell? ⟨b, 1, none⟩ = some (.int .i64 1) := HT.out.cell 1 _ rfl
      have tf1 := HT.out.frozen 1
      have t2 : wrv.cell? ⟨b, 2, none⟩ = some (.int .i64 x) := HT.out.cell 2 _ rfl
      have tf2 := HT.out.frozen 2
      have t3 : wrv.cell? ⟨b, 3, none⟩ = some (.int .i64 y) := HT.out.cell 3 _ rfl
      have tf3 := HT.out.frozen 3
      have t4 : wrv.cell? ⟨b, 4, none⟩ = some (.int .i64 c4) := HT.out.cell 4 _ rfl
      have tf4 := HT.out.frozen 4
      have t5 : wrv.cell? ⟨b, 5, none⟩ = some (.int .i64 0) := HT.out.cell 5 _ rfl
      have tf5 := HT.out.frozen 5
      go_upto_region 10 with fail
      clear t0 tf0 t1 tf1 t2 tf2 t3 tf3 t4 tf4 t5 tf5
      go_wp2_with fail
      refine (pick p _ 24 wrv HC.out (by omega) (by omega) (by omega)).mono ?_
      rintro e wk ⟨k, rfl, k0, k1, hc, hg⟩
      have HT := Lib.hid (HT.out.grown hg (Nat.ne_of_gt htp))
      have HZ := Lib.hid (HZ.out.grown hg (Nat.ne_of_gt hzp))
      have HC := Lib.hid hc
      have HG := Lib.hid (grown_trans HG.out hg)
      clear hc hg
      by_cases h0 : k = 0
      · subst h0
        go_wp2_with fail
        refine (among_new (0) 10000 p _ 5 [0, 2, 3, 9999, 10000] _ wk HC.out (by omega) (by omega) (by omega) rfl rfl (by decide)).mono ?_
        rintro e wu ⟨u, rfl, u0, u1, hc, hg⟩
        have HT := Lib.hid (HT.out.grown hg (Nat.ne_of_gt htp))
        have HZ := Lib.hid (HZ.out.grown hg (Nat.ne_of_gt hzp))
        have HC := Lib.hid hc
        have HG := Lib.hid (grown_trans HG.out hg)
        clear hc hg
        have t0 : wu.cell? ⟨b, 0, none⟩ = some (.int .i64 i) := HT.out.cell 0 _ rfl
        have tf0 := HT.out.frozen 0
        have t1 : wu.cell? ⟨b, 1, none⟩ = some (.int .i64 1) := HT.out.cell 1 _ rfl
        have tf1 := HT.out.frozen 1
        have t2 : wu.cell? ⟨b, 2, none⟩ = some (.int .i64 x) := HT.out.cell 2 _ rfl
        have tf2 := HT.out.frozen 2
        have t3 : wu.cell? ⟨b, 3, none⟩ = some (.int .i64 y) := HT.out.cell 3 _ rfl
        have tf3 := HT.out.frozen 3
        have t4 : wu.cell? ⟨b, 4, none⟩ = some (.int .i64 c4) := HT.out.cell 4 _ rfl
        have tf4 := HT.out.frozen 4
        have t5 : wu.cell? ⟨b, 5, none⟩ = some (.int .i64 0) := HT.out.cell 5 _ rfl
        have tf5 := HT.out.frozen 5
        go_upto_region 19 with fail
        clear t0 tf0 t1 tf1 t2 tf2 t3 tf3 t4 tf4 t5 tf5
        have HT := Lib.hid (HT.out.set 4 (.int .i64 u))
        have HZ := Lib.hid (HZ.out.other (Nat.ne_of_lt hzt) 4 (.int .i64 u))
        have HC := Lib.hid (Cur.set HC.out htp (i := 4) (v := .int .i64 u))
        have HG := Lib.hid (grown_put HG.out (Nat.le_of_lt hzt) (i := 4) (v := .int .i64 u))
        generalize wu.setCell ⟨b, 4, none⟩ (.int .i64 u) = wv at *
        have z0 : wv.cell? ⟨w.heap.size, 0, none⟩ = some (.int .i64 0) := HZ.out.cell 0 _ rfl
        have zf0 := HZ.out.frozen 0
        have z1 : wv.cell? ⟨w.heap.size, 1, none⟩ = some (.int .i64 0) := HZ.out.cell 1 _ rfl
        have zf1 := HZ.out.frozen 1
        have z2 : wv.cell? ⟨w.heap.size, 2, none⟩ = some (.int .i64 0) := HZ.out.cell 2 _ rfl
        have zf2 := HZ.out.frozen 2
        have z3 : wv.cell? ⟨w.heap.size, 3, none⟩ = some (.int .i64 0) := HZ.out.cell 3 _ rfl
        have zf3 := HZ.out.frozen 3
        have z4 : wv.cell? ⟨w.heap.size, 4, none⟩ = some (.int .i64 0) := HZ.out.cell 4 _ rfl
        have zf4 := HZ.out.frozen 4
        have z5 : wv.cell? ⟨w.heap.size, 5, none⟩ = some (.int .i64 0) := HZ.out.cell 5 _ rfl
        have zf5 := HZ.out.frozen 5
        have t0 : wv.cell? ⟨b, 0, none⟩ = some (.int .i64 i) := HT.out.cell 0 _ rfl
        have tf0 := HT.out.frozen 0
        have t1 : wv.cell? ⟨b, 1, none⟩ = some (.int .i64 1) := HT.out.cell 1 _ rfl
        have tf1 := HT.out.frozen 1
        have t2 : wv.cell? ⟨b, 2, none⟩ = some (.int .i64 x) := HT.out.cell 2 _ rfl
        have tf2 := HT.out.frozen 2
        have t3 : wv.cell? ⟨b, 3, none⟩ = some (.int .i64 y) := HT.out.cell 3 _ rfl
        have tf3 := HT.out.frozen 3
        have t4 : wv.cell? ⟨b, 4, none⟩ = some (.int .i64 u) := HT.out.cell 4 _ rfl
        have tf4 := HT.out.frozen 4
        have t5 : wv.cell? ⟨b, 5, none⟩ = some (.int .i64 0) := HT.out.cell 5 _ rfl
        have tf5 := HT.out.frozen 5
        have HE := Lib.hid ((((((HZ.out.set 0 (.int .i64 i)).set 1 (.int .i64 1)).set 2 (.int .i64 x)).set 3 (.int .i64 y)).set 4 (.int .i64 u)).set 5 (.int .i64 0))
        have HCe := Lib.hid (Cur.set (Cur.set (Cur.set (Cur.set (Cur.set (Cur.set HC.out hzp (i := 0) (v := .int .i64 i)) hzp (i := 1) (v := .int .i64 1)) hzp (i := 2) (v := .int .i64 x)) hzp (i := 3) (v := .int .i64 y)) hzp (i := 4) (v := .int .i64 u)) hzp (i := 5) (v := .int .i64 0))
        have HGe := Lib.hid (grown_put (grown_put (grown_put (grown_put (grown_put (grown_put HG.out (Nat.le_refl _) (i := 0) (v := .int .i64 i)) (Nat.le_refl _) (i := 1) (v := .int .i64 1)) (Nat.le_refl _) (i := 2) (v := .int .i64 x)) (Nat.le_refl _) (i := 3) (v := .int .i64 y)) (Nat.le_refl _) (i := 4) (v := .int .i64 u)) (Nat.le_refl _) (i := 5) (v := .int .i64 0))
        clear HT HZ HC HG
        go_wp2_with fail
        have hl := HE.out.load Tryz.underlying25 rfl (by kernel_rfl)
        refine bodyPost_ret (v := .agg #[.int .i64 i, .int .i64 1, .int .i64 x, .int .i64 y, .int .i64 u, .int .i64 0]) ?_ rfl ⟨_, _, _, _, _, _, rfl, HCe.out.more (by omega), HGe.out⟩
        rw [ats.results_cell1 rfl]
        simp [asAddr, Result.andThen, hl]
      have d0 : (k == 0) = false := by simpa using h0
      by_cases h1 : k = 1
      · subst h1
        go_wp2_with fail
        refine (among_new (-1) 4 p _ 4 [0, 1, 4, -1] _ wk HC.out (by omega) (by omega) (by omega) rfl rfl (by decide)).mono ?_
        rintro e wu ⟨u, rfl, u0, u1, hc, hg⟩
        have HT := Lib.hid (HT.out.grown hg (Nat.ne_of_gt htp))
        have HZ := Lib.hid (HZ.out.grown hg (Nat.ne_of_gt hzp))
        have HC := Lib.hid hc
        have HG := Lib.hid (grown_trans HG.out hg)
        clear hc hg
        have t0 : wu.cell? ⟨b, 0, none⟩ = some (.int .i64 i) := HT.out.cell 0 _ rfl
        have tf0 := HT.out.frozen 0
        have t1 : wu.cell? ⟨b, 1, none⟩ = some (.int .i64 1) := HT.out.cell 1 _ rfl
        have tf1 := HT.out.frozen 1
        have t2 : wu.cell? ⟨b, 2, none⟩ = some (.int .i64 x) := HT.out.cell 2 _ rfl
        have tf2 := HT.out.frozen 2
        have t3 : wu.cell? ⟨b, 3, none⟩ = some (.int .i64 y) := HT.out.cell 3 _ rfl
        have tf3 := HT.out.frozen 3
        have t4 : wu.cell? ⟨b, 4, none⟩ = some (.int .i64 c4) := HT.out.cell 4 _ rfl
        have tf4 := HT.out.frozen 4
        have t5 : wu.cell? ⟨b, 5, none⟩ = some (.int .i64 0) := HT.out.cell 5 _ rfl
        have tf5 := HT.out.frozen 5
        go_upto_region 19 with fail
        clear t0 tf0 t1 tf1 t2 tf2 t3 tf3 t4 tf4 t5 tf5
        have HT := Lib.hid (HT.out.set 5 (.int .i64 u))
        have HZ := Lib.hid (HZ.out.other (Nat.ne_of_lt hzt) 5 (.int .i64 u))
        have HC := Lib.hid (Cur.set HC.out htp (i := 5) (v := .int .i64 u))
        have HG := Lib.hid (grown_put HG.out (Nat.le_of_lt hzt) (i := 5) (v := .int .i64 u))
        generalize wu.setCell ⟨b, 5, none⟩ (.int .i64 u) = wv at *
        have z0 : wv.cell? ⟨w.heap.size, 0, none⟩ = some (.int .i64 0) := HZ.out.cell 0 _ rfl
        have zf0 := HZ.out.frozen 0
        have z1 : wv.cell? ⟨w.heap.size, 1, none⟩ = some (.int .i64 0) := HZ.out.cell 1 _ rfl
        have zf1 := HZ.out.frozen 1
        have z2 : wv.cell? ⟨w.heap.size, 2, none⟩ = some (.int .i64 0) := HZ.out.cell 2 _ rfl
        have zf2 := HZ.out.frozen 2
        have z3 : wv.cell? ⟨w.heap.size, 3, none⟩ = some (.int .i64 0) := HZ.out.cell 3 _ rfl
        have zf3 := HZ.out.frozen 3
        have z4 : wv.cell? ⟨w.heap.size, 4, none⟩ = some (.int .i64 0) := HZ.out.cell 4 _ rfl
        have zf4 := HZ.out.frozen 4
        have z5 : wv.cell? ⟨w.heap.size, 5, none⟩ = some (.int .i64 0) := HZ.out.cell 5 _ rfl
        have zf5 := HZ.out.frozen 5
        have t0 : wv.cell? ⟨b, 0, none⟩ = some (.int .i64 i) := HT.out.cell 0 _ rfl
        have tf0 := HT.out.frozen 0
        have t1 : wv.cell? ⟨b, 1, none⟩ = some (.int .i64 1) := HT.out.cell 1 _ rfl
        have tf1 := HT.out.frozen 1
        have t2 : wv.cell? ⟨b, 2, none⟩ = some (.int .i64 x) := HT.out.cell 2 _ rfl
        have tf2 := HT.out.frozen 2
        have t3 : wv.cell? ⟨b, 3, none⟩ = some (.int .i64 y) := HT.out.cell 3 _ rfl
        have tf3 := HT.out.frozen 3
        have t4 : wv.cell? ⟨b, 4, none⟩ = some (.int .i64 c4) := HT.out.cell 4 _ rfl
        have tf4 := HT.out.frozen 4
        have t5 : wv.cell? ⟨b, 5, none⟩ = some (.int .i64 u) := HT.out.cell 5 _ rfl
        have tf5 := HT.out.frozen 5
        have HE := Lib.hid ((((((HZ.out.set 0 (.int .i64 i)).set 1 (.int .i64 1)).set 2 (.int .i64 x)).set 3 (.int .i64 y)).set 4 (.int .i64 c4)).set 5 (.int .i64 u))
        have HCe := Lib.hid (Cur.set (Cur.set (Cur.set (Cur.set (Cur.set (Cur.set HC.out hzp (i := 0) (v := .int .i64 i)) hzp (i := 1) (v := .int .i64 1)) hzp (i := 2) (v := .int .i64 x)) hzp (i := 3) (v := .int .i64 y)) hzp (i := 4) (v := .int .i64 c4)) hzp (i := 5) (v := .int .i64 u))
        have HGe := Lib.hid (grown_put (grown_put (grown_put (grown_put (grown_put (grown_put HG.out (Nat.le_refl _) (i := 0) (v := .int .i64 i)) (Nat.le_refl _) (i := 1) (v := .int .i64 1)) (Nat.le_refl _) (i := 2) (v := .int .i64 x)) (Nat.le_refl _) (i := 3) (v := .int .i64 y)) (Nat.le_refl _) (i := 4) (v := .int .i64 c4)) (Nat.le_refl _) (i := 5) (v := .int .i64 u))
        clear HT HZ HC HG
        go_wp2_with fail
        have hl := HE.out.load Tryz.underlying25 rfl (by kernel_rfl)
        refine bodyPost_ret (v := .agg #[.int .i64 i, .int .i64 1, .int .i64 x, .int .i64 y, .int .i64 c4, .int .i64 u]) ?_ rfl ⟨_, _, _, _, _, _, rfl, HCe.out.more (by omega), HGe.out⟩
        rw [ats.results_cell1 rfl]
        simp [asAddr, Result.andThen, hl]
      have d1 : (k == 1) = false := by simpa using h1
      by_cases h2 : k = 2
      · subst h2
        go_wp2_with fail
        refine (among_new (-1) 9900 p _ 3 [-1, 9900, 9899] _ wk HC.out (by omega) (by omega) (by omega) rfl rfl (by decide)).mono ?_
        rintro e wu ⟨u, rfl, u0, u1, hc, hg⟩
        have HT := Lib.hid (HT.out.grown hg (Nat.ne_of_gt htp))
        have HZ := Lib.hid (HZ.out.grown hg (Nat.ne_of_gt hzp))
        have HC := Lib.hid hc
        have HG := Lib.hid (grown_trans HG.out hg)
        clear hc hg
        have t0 : wu.cell? ⟨b, 0, none⟩ = some (.int .i64 i) := HT.out.cell 0 _ rfl
        have tf0 := HT.out.frozen 0
        have t1 : wu.cell? ⟨b, 1, none⟩ = some (.int .i64 1) := HT.out.cell 1 _ rfl
        have tf1 := HT.out.frozen 1
        have t2 : wu.cell? ⟨b, 2, none⟩ = some (.int .i64 x) := HT.out.cell 2 _ rfl
        have tf2 := HT.out.frozen 2
        have t3 : wu.cell? ⟨b, 3, none⟩ = some (.int .i64 y) := HT.out.cell 3 _ rfl
        have tf3 := HT.out.frozen 3
        have t4 : wu.cell? ⟨b, 4, none⟩ = some (.int .i64 c4) := HT.out.cell 4 _ rfl
        have tf4 := HT.out.frozen 4
        have t5 : wu.cell? ⟨b, 5, none⟩ = some (.int .i64 0) := HT.out.cell 5 _ rfl
        have tf5 := HT.out.frozen 5
        go_upto_region 19 with fail
        clear t0 tf0 t1 tf1 t2 tf2 t3 tf3 t4 tf4 t5 tf5
        have HT := Lib.hid (HT.out.set 2 (.int .i64 u))
        have HZ := Lib.hid (HZ.out.other (Nat.ne_of_lt hzt) 2 (.int .i64 u))
        have HC := Lib.hid (Cur.set HC.out htp (i := 2) (v := .int .i64 u))
        have HG := Lib.hid (grown_put HG.out (Nat.le_of_lt hzt) (i := 2) (v := .int .i64 u))
        generalize wu.setCell ⟨b, 2, none⟩ (.int .i64 u) = wv at *
        have z0 : wv.cell? ⟨w.heap.size, 0, none⟩ = some (.int .i64 0) := HZ.out.cell 0 _ rfl
        have zf0 := HZ.out.frozen 0
        have z1 : wv.cell? ⟨w.heap.size, 1, none⟩ = some (.int .i64 0) := HZ.out.cell 1 _ rfl
        have zf1 := HZ.out.frozen 1
        have z2 : wv.cell? ⟨w.heap.size, 2, none⟩ = some (.int .i64 0) := HZ.out.cell 2 _ rfl
        have zf2 := HZ.out.frozen 2
        have z3 : wv.cell? ⟨w.heap.size, 3, none⟩ = some (.int .i64 0) := HZ.out.cell 3 _ rfl
        have zf3 := HZ.out.frozen 3
        have z4 : wv.cell? ⟨w.heap.size, 4, none⟩ = some (.int .i64 0) := HZ.out.cell 4 _ rfl
        have zf4 := HZ.out.frozen 4
        have z5 : wv.cell? ⟨w.heap.size, 5, none⟩ = some (.int .i64 0) := HZ.out.cell 5 _ rfl
        have zf5 := HZ.out.frozen 5
        have t0 : wv.cell? ⟨b, 0, none⟩ = some (.int .i64 i) := HT.out.cell 0 _ rfl
        have tf0 := HT.out.frozen 0
        have t1 : wv.cell? ⟨b, 1, none⟩ = some (.int .i64 1) := HT.out.cell 1 _ rfl
        have tf1 := HT.out.frozen 1
        have t2 : wv.cell? ⟨b, 2, none⟩ = some (.int .i64 u) := HT.out.cell 2 _ rfl
        have tf2 := HT.out.frozen 2
        have t3 : wv.cell? ⟨b, 3, none⟩ = some (.int .i64 y) := HT.out.cell 3 _ rfl
        have tf3 := HT.out.frozen 3
        have t4 : wv.cell? ⟨b, 4, none⟩ = some (.int .i64 c4) := HT.out.cell 4 _ rfl
        have tf4 := HT.out.frozen 4
        have t5 : wv.cell? ⟨b, 5, none⟩ = some (.int .i64 0) := HT.out.cell 5 _ rfl
        have tf5 := HT.out.frozen 5
        have HE := Lib.hid ((((((HZ.out.set 0 (.int .i64 i)).set 1 (.int .i64 1)).set 2 (.int .i64 u)).set 3 (.int .i64 y)).set 4 (.int .i64 c4)).set 5 (.int .i64 0))
        have HCe := Lib.hid (Cur.set (Cur.set (Cur.set (Cur.set (Cur.set (Cur.set HC.out hzp (i := 0) (v := .int .i64 i)) hzp (i := 1) (v := .int .i64 1)) hzp (i := 2) (v := .int .i64 u)) hzp (i := 3) (v := .int .i64 y)) hzp (i := 4) (v := .int .i64 c4)) hzp (i := 5) (v := .int .i64 0))
        have HGe := Lib.hid (grown_put (grown_put (grown_put (grown_put (grown_put (grown_put HG.out (Nat.le_refl _) (i := 0) (v := .int .i64 i)) (Nat.le_refl _) (i := 1) (v := .int .i64 1)) (Nat.le_refl _) (i := 2) (v := .int .i64 u)) (Nat.le_refl _) (i := 3) (v := .int .i64 y)) (Nat.le_refl _) (i := 4) (v := .int .i64 c4)) (Nat.le_refl _) (i := 5) (v := .int .i64 0))
        clear HT HZ HC HG
        go_wp2_with fail
        have hl := HE.out.load Tryz.underlying25 rfl (by kernel_rfl)
        refine bodyPost_ret (v := .agg #[.int .i64 i, .int .i64 1, .int .i64 u, .int .i64 y, .int .i64 c4, .int .i64 0]) ?_ rfl ⟨_, _, _, _, _, _, rfl, HCe.out.more (by omega), HGe.out⟩
        rw [ats.results_cell1 rfl]
        simp [asAddr, Result.andThen, hl]
      have d2 : (k == 2) = false := by simpa using h2
      by_cases h3 : k = 3
      · subst h3
        go_wp2_with fail
        refine (among_new (0) 4 p _ 2 [0, 4] _ wk HC.out (by omega) (by omega) (by omega) rfl rfl (by decide)).mono ?_
        rintro e wu ⟨u, rfl, u0, u1, hc, hg⟩
        have HT := Lib.hid (HT.out.grown hg (Nat.ne_of_gt htp))
        have HZ := Lib.hid (HZ.out.grown hg (Nat.ne_of_gt hzp))
        have HC := Lib.hid hc
        have HG := Lib.hid (grown_trans HG.out hg)
        clear hc hg
        have t0 : wu.cell? ⟨b, 0, none⟩ = some (.int .i64 i) := HT.out.cell 0 _ rfl
        have tf0 := HT.out.frozen 0
        have t1 : wu.cell? ⟨b, 1, none⟩ = some (.int .i64 1) := HT.out.cell 1 _ rfl
        have tf1 := HT.out.frozen 1
        have t2 : wu.cell? ⟨b, 2, none⟩ = some (.int .i64 x) := HT.out.cell 2 _ rfl
        have tf2 := HT.out.frozen 2
        have t3 : wu.cell? ⟨b, 3, none⟩ = some (.int .i64 y) := HT.out.cell 3 _ rfl
        have tf3 := HT.out.frozen 3
        have t4 : wu.cell? ⟨b, 4, none⟩ = some (.int .i64 c4) := HT.out.cell 4 _ rfl
        have tf4 := HT.out.frozen 4
        have t5 : wu.cell? ⟨b, 5, none⟩ = some (.int .i64 0) := HT.out.cell 5 _ rfl
        have tf5 := HT.out.frozen 5
        go_upto_region 19 with fail
        clear t0 tf0 t1 tf1 t2 tf2 t3 tf3 t4 tf4 t5 tf5
        have HT := Lib.hid (HT.out.set 1 (.int .i64 u))
        have HZ := Lib.hid (HZ.out.other (Nat.ne_of_lt hzt) 1 (.int .i64 u))
        have HC := Lib.hid (Cur.set HC.out htp (i := 1) (v := .int .i64 u))
        have HG := Lib.hid (grown_put HG.out (Nat.le_of_lt hzt) (i := 1) (v := .int .i64 u))
        generalize wu.setCell ⟨b, 1, none⟩ (.int .i64 u) = wv at *
        have z0 : wv.cell? ⟨w.heap.size, 0, none⟩ = some (.int .i64 0) := HZ.out.cell 0 _ rfl
        have zf0 := HZ.out.frozen 0
        have z1 : wv.cell? ⟨w.heap.size, 1, none⟩ = some (.int .i64 0) := HZ.out.cell 1 _ rfl
        have zf1 := HZ.out.frozen 1
        have z2 : wv.cell? ⟨w.heap.size, 2, none⟩ = some (.int .i64 0) := HZ.out.cell 2 _ rfl
        have zf2 := HZ.out.frozen 2
        have z3 : wv.cell? ⟨w.heap.size, 3, none⟩ = some (.int .i64 0) := HZ.out.cell 3 _ rfl
        have zf3 := HZ.out.frozen 3
        have z4 : wv.cell? ⟨w.heap.size, 4, none⟩ = some (.int .i64 0) := HZ.out.cell 4 _ rfl
        have zf4 := HZ.out.frozen 4
        have z5 : wv.cell? ⟨w.heap.size, 5, none⟩ = some (.int .i64 0) := HZ.out.cell 5 _ rfl
        have zf5 := HZ.out.frozen 5
        have t0 : wv.cell? ⟨b, 0, none⟩ = some (.int .i64 i) := HT.out.cell 0 _ rfl
        have tf0 := HT.out.frozen 0
        have t1 : wv.cell? ⟨b, 1, none⟩ = some (.int .i64 u) := HT.out.cell 1 _ rfl
        have tf1 := HT.out.frozen 1
        have t2 : wv.cell? ⟨b, 2, none⟩ = some (.int .i64 x) := HT.out.cell 2 _ rfl
        have tf2 := HT.out.frozen 2
        have t3 : wv.cell? ⟨b, 3, none⟩ = some (.int .i64 y) := HT.out.cell 3 _ rfl
        have tf3 := HT.out.frozen 3
        have t4 : wv.cell? ⟨b, 4, none⟩ = some (.int .i64 c4) := HT.out.cell 4 _ rfl
        have tf4 := HT.out.frozen 4
        have t5 : wv.cell? ⟨b, 5, none⟩ = some (.int .i64 0) := HT.out.cell 5 _ rfl
        have tf5 := HT.out.frozen 5
        have HE := Lib.hid ((((((HZ.out.set 0 (.int .i64 i)).set 1 (.int .i64 u)).set 2 (.int .i64 x)).set 3 (.int .i64 y)).set 4 (.int .i64 c4)).set 5 (.int .i64 0))
        have HCe := Lib.hid (Cur.set (Cur.set (Cur.set (Cur.set (Cur.set (Cur.set HC.out hzp (i := 0) (v := .int .i64 i)) hzp (i := 1) (v := .int .i64 u)) hzp (i := 2) (v := .int .i64 x)) hzp (i := 3) (v := .int .i64 y)) hzp (i := 4) (v := .int .i64 c4)) hzp (i := 5) (v := .int .i64 0))
        have HGe := Lib.hid (grown_put (grown_put (grown_put (grown_put (grown_put (grown_put HG.out (Nat.le_refl _) (i := 0) (v := .int .i64 i)) (Nat.le_refl _) (i := 1) (v := .int .i64 u)) (Nat.le_refl _) (i := 2) (v := .int .i64 x)) (Nat.le_refl _) (i := 3) (v := .int .i64 y)) (Nat.le_refl _) (i := 4) (v := .int .i64 c4)) (Nat.le_refl _) (i := 5) (v := .int .i64 0))
        clear HT HZ HC HG
        go_wp2_with fail
        have hl := HE.out.load Tryz.underlying25 rfl (by kernel_rfl)
        refine bodyPost_ret (v := .agg #[.int .i64 i, .int .i64 u, .int .i64 x, .int .i64 y, .int .i64 c4, .int .i64 0]) ?_ rfl ⟨_, _, _, _, _, _, rfl, HCe.out.more (by omega), HGe.out⟩
        rw [ats.results_cell1 rfl]
        simp [asAddr, Result.andThen, hl]
      have d3 : (k == 3) = false := by simpa using h3
      have z0 : wk.cell? ⟨w.heap.size, 0, none⟩ = some (.int .i64 0) := HZ.out.cell 0 _ rfl
      have zf0 := HZ.out.frozen 0
      have z1 : wk.cell? ⟨w.heap.size, 1, none⟩ = some (.int .i64 0) := HZ.out.cell 1 _ rfl
      have zf1 := HZ.out.frozen 1
      have z2 : wk.cell? ⟨w.heap.size, 2, none⟩ = some (.int .i64 0) := HZ.out.cell 2 _ rfl
      have zf2 := HZ.out.frozen 2
      have z3 : wk.cell? ⟨w.heap.size, 3, none⟩ = some (.int .i64 0) := HZ.out.cell 3 _ rfl
      have zf3 := HZ.out.frozen 3
      have z4 : wk.cell? ⟨w.heap.size, 4, none⟩ = some (.int .i64 0) := HZ.out.cell 4 _ rfl
      have zf4 := HZ.out.frozen 4
      have z5 : wk.cell? ⟨w.heap.size, 5, none⟩ = some (.int .i64 0) := HZ.out.cell 5 _ rfl
      have zf5 := HZ.out.frozen 5
      have t0 : wk.cell? ⟨b, 0, none⟩ = some (.int .i64 i) := HT.out.cell 0 _ rfl
      have tf0 := HT.out.frozen 0
      have t1 : wk.cell? ⟨b, 1, none⟩ = some (.int .i64 1) := HT.out.cell 1 _ rfl
      have tf1 := HT.out.frozen 1
      have t2 : wk.cell? ⟨b, 2, none⟩ = some (.int .i64 x) := HT.out.cell 2 _ rfl
      have tf2 := HT.out.frozen 2
      have t3 : wk.cell? ⟨b, 3, none⟩ = some (.int .i64 y) := HT.out.cell 3 _ rfl
      have tf3 := HT.out.frozen 3
      have t4 : wk.cell? ⟨b, 4, none⟩ = some (.int .i64 c4) := HT.out.cell 4 _ rfl
      have tf4 := HT.out.frozen 4
      have t5 : wk.cell? ⟨b, 5, none⟩ = some (.int .i64 0) := HT.out.cell 5 _ rfl
      have tf5 := HT.out.frozen 5
      have HE := Lib.hid ((((((HZ.out.set 0 (.int .i64 i)).set 1 (.int .i64 1)).set 2 (.int .i64 x)).set 3 (.int .i64 y)).set 4 (.int .i64 c4)).set 5 (.int .i64 0))
      have HCe := Lib.hid (Cur.set (Cur.set (Cur.set (Cur.set (Cur.set (Cur.set HC.out hzp (i := 0) (v := .int .i64 i)) hzp (i := 1) (v := .int .i64 1)) hzp (i := 2) (v := .int .i64 x)) hzp (i := 3) (v := .int .i64 y)) hzp (i := 4) (v := .int .i64 c4)) hzp (i := 5) (v := .int .i64 0))
      have HGe := Lib.hid (grown_put (grown_put (grown_put (grown_put (grown_put (grown_put HG.out (Nat.le_refl _) (i := 0) (v := .int .i64 i)) (Nat.le_refl _) (i := 1) (v := .int .i64 1)) (Nat.le_refl _) (i := 2) (v := .int .i64 x)) (Nat.le_refl _) (i := 3) (v := .int .i64 y)) (Nat.le_refl _) (i := 4) (v := .int .i64 c4)) (Nat.le_refl _) (i := 5) (v := .int .i64 0))
      clear HT HZ HC HG
      go_wp2_with fail
      have hl := HE.out.load Tryz.underlying25 rfl (by kernel_rfl)
      refine bodyPost_ret (v := .agg #[.int .i64 i, .int .i64 1, .int .i64 x, .int .i64 y, .int .i64 c4, .int .i64 0]) ?_ rfl ⟨_, _, _, _, _, _, rfl, HCe.out.more (by omega), HGe.out⟩
      rw [ats.results_cell1 rfl]
      simp [asAddr, Result.andThen, hl]
    have e_1 : (s == 1) = false := by simpa using g1
    by_cases g2 : s = 2
    · subst g2
      go_wp2_with fail
      refine (pick p _ 9 wc HC.out (by omega) (by omega) (by omega)).mono ?_
      rintro e wr ⟨r, rfl, r0, r1, hc, hg⟩
      clear t0 tf0 t1 tf1 t2 tf2 t3 tf3 t4 tf4 t5 tf5
      have HT := Lib.hid (HT.out.grown hg (Nat.ne_of_gt htp))
      have HZ := Lib.hid (HZ.out.grown hg (Nat.ne_of_gt hzp))
      have HC := Lib.hid hc
      have HG := Lib.hid (grown_trans HG.out hg)
      clear hc hg
      have e1 : IntKind.i64.wrap (3 + r) = 3 + r := IntWalk.i64_in _ (by omega)
      have t0 : wr.cell? ⟨b, 0, none⟩ = some (.int .i64 i) := HT.out.cell 0 _ rfl
      have tf0 := HT.out.frozen 0
      have t1 : wr.cell? ⟨b, 1, none⟩ = some (.int .i64 2) := HT.out.cell 1 _ rfl
      have tf1 := HT.out.frozen 1
      have t2 : wr.cell? ⟨b, 2, none⟩ = some (.int .i64 x) := HT.out.cell 2 _ rfl
      have tf2 := HT.out.frozen 2
      have t3 : wr.cell? ⟨b, 3, none⟩ = some (.int .i64 y) := HT.out.cell 3 _ rfl
      have tf3 := HT.out.frozen 3
      have t4 : wr.cell? ⟨b, 4, none⟩ = some (.int .i64 0) := HT.out.cell 4 _ rfl
      have tf4 := HT.out.frozen 4
      have t5 : wr.cell? ⟨b, 5, none⟩ = some (.int .i64 0) := HT.out.cell 5 _ rfl
      have tf5 := HT.out.frozen 5
      go_upto_region 10 with fail
      clear t0 tf0 t1 tf1 t2 tf2 t3 tf3 t4 tf4 t5 tf5
      have HT := Lib.hid (HT.out.set 4 (.int .i64 (3 + r)))
      have HZ := Lib.hid (HZ.out.other (Nat.ne_of_lt hzt) 4 (.int .i64 (3 + r)))
      have HC := Lib.hid (Cur.set HC.out htp (i := 4) (v := .int .i64 (3 + r)))
      have HG := Lib.hid (grown_put HG.out (Nat.le_of_lt hzt) (i := 4) (v := .int .i64 (3 + r)))
      generalize wr.setCell ⟨b, 4, none⟩ (.int .i64 (3 + r)) = wrv at *
      generalize 3 + r = c4 at *
      clear e1 r0 r1
      have t0 : wrv.cell? ⟨b, 0, none⟩ = some (.int .i64 i) := HT.out.cell 0 _ rfl
      have tf0 := HT.out.frozen 0
      have t1 : wrv.cell? ⟨b, 1, none⟩ = some (.int .i64 2) := HT.out.cell 1 _ rfl
      have tf1 := HT.out.frozen 1
      have t2 : wrv.cell? ⟨b, 2, none⟩ = some (.int .i64 x) := HT.out.cell 2 _ rfl
      have tf2 := HT.out.frozen 2
      have t3 : wrv.cell? ⟨b, 3, none⟩ = some (.int .i64 y) := HT.out.cell 3 _ rfl
      have tf3 := HT.out.frozen 3
      have t4 : wrv.cell? ⟨b, 4, none⟩ = some (.int .i64 c4) := HT.out.cell 4 _ rfl
      have tf4 := HT.out.frozen 4
      have t5 : wrv.cell? ⟨b, 5, none⟩ = some (.int .i64 0) := HT.out.cell 5 _ rfl
      have tf5 := HT.out.frozen 5
      go_upto_region 10 with fail
      clear t0 tf0 t1 tf1 t2 tf2 t3 tf3 t4 tf4 t5 tf5
      go_wp2_with fail
      refine (pick p _ 24 wrv HC.out (by omega) (by omega) (by omega)).mono ?_
      rintro e wk ⟨k, rfl, k0, k1, hc, hg⟩
      have HT := Lib.hid (HT.out.grown hg (Nat.ne_of_gt htp))
      have HZ := Lib.hid (HZ.out.grown hg (Nat.ne_of_gt hzp))
      have HC := Lib.hid hc
      have HG := Lib.hid (grown_trans HG.out hg)
      clear hc hg
      by_cases h0 : k = 0
      · subst h0
        go_wp2_with fail
        refine (among_new (0) 10000 p _ 5 [0, 2, 3, 9999, 10000] _ wk HC.out (by omega) (by omega) (by omega) rfl rfl (by decide)).mono ?_
        rintro e wu ⟨u, rfl, u0, u1, hc, hg⟩
        have HT := Lib.hid (HT.out.grown hg (Nat.ne_of_gt htp))
        have HZ := Lib.hid (HZ.out.grown hg (Nat.ne_of_gt hzp))
        have HC := Lib.hid hc
        have HG := Lib.hid (grown_trans HG.out hg)
        clear hc hg
        have t0 : wu.cell? ⟨b, 0, none⟩ = some (.int .i64 i) := HT.out.cell 0 _ rfl
        have tf0 := HT.out.frozen 0
        have t1 : wu.cell? ⟨b, 1, none⟩ = some (.int .i64 2) := HT.out.cell 1 _ rfl
        have tf1 := HT.out.frozen 1
        have t2 : wu.cell? ⟨b, 2, none⟩ = some (.int .i64 x) := HT.out.cell 2 _ rfl
        have tf2 := HT.out.frozen 2
        have t3 : wu.cell? ⟨b, 3, none⟩ = some (.int .i64 y) := HT.out.cell 3 _ rfl
        have tf3 := HT.out.frozen 3
        have t4 : wu.cell? ⟨b, 4, none⟩ = some (.int .i64 c4) := HT.out.cell 4 _ rfl
        have tf4 := HT.out.frozen 4
        have t5 : wu.cell? ⟨b, 5, none⟩ = some (.int .i64 0) := HT.out.cell 5 _ rfl
        have tf5 := HT.out.frozen 5
        go_upto_region 19 with fail
        clear t0 tf0 t1 tf1 t2 tf2 t3 tf3 t4 tf4 t5 tf5
        have HT := Lib.hid (HT.out.set 4 (.int .i64 u))
        have HZ := Lib.hid (HZ.out.other (Nat.ne_of_lt hzt) 4 (.int .i64 u))
        have HC := Lib.hid (Cur.set HC.out htp (i := 4) (v := .int .i64 u))
        have HG := Lib.hid (grown_put HG.out (Nat.le_of_lt hzt) (i := 4) (v := .int .i64 u))
        generalize wu.setCell ⟨b, 4, none⟩ (.int .i64 u) = wv at *
        have z0 : wv.cell? ⟨w.heap.size, 0, none⟩ = some (.int .i64 0) := HZ.out.cell 0 _ rfl
        have zf0 := HZ.out.frozen 0
        have z1 : wv.cell? ⟨w.heap.size, 1, none⟩ = some (.int .i64 0) := HZ.out.cell 1 _ rfl
        have zf1 := HZ.out.frozen 1
        have z2 : wv.cell? ⟨w.heap.size, 2, none⟩ = some (.int .i64 0) := HZ.out.cell 2 _ rfl
        have zf2 := HZ.out.frozen 2
        have z3 : wv.cell? ⟨w.heap.size, 3, none⟩ = some (.int .i64 0) := HZ.out.cell 3 _ rfl
        have zf3 := HZ.out.frozen 3
        have z4 : wv.cell? ⟨w.heap.size, 4, none⟩ = some (.int .i64 0) := HZ.out.cell 4 _ rfl
        have zf4 := HZ.out.frozen 4
        have z5 : wv.cell? ⟨w.heap.size, 5, none⟩ = some (.int .i64 0) := HZ.out.cell 5 _ rfl
        have zf5 := HZ.out.frozen 5
        have t0 : wv.cell? ⟨b, 0, none⟩ = some (.int .i64 i) := HT.out.cell 0 _ rfl
        have tf0 := HT.out.frozen 0
        have t1 : wv.cell? ⟨b, 1, none⟩ = some (.int .i64 2) := HT.out.cell 1 _ rfl
        have tf1 := HT.out.frozen 1
        have t2 : wv.cell? ⟨b, 2, none⟩ = some (.int .i64 x) := HT.out.cell 2 _ rfl
        have tf2 := HT.out.frozen 2
        have t3 : wv.cell? ⟨b, 3, none⟩ = some (.int .i64 y) := HT.out.cell 3 _ rfl
        have tf3 := HT.out.frozen 3
        have t4 : wv.cell? ⟨b, 4, none⟩ = some (.int .i64 u) := HT.out.cell 4 _ rfl
        have tf4 := HT.out.frozen 4
        have t5 : wv.cell? ⟨b, 5, none⟩ = some (.int .i64 0) := HT.out.cell 5 _ rfl
        have tf5 := HT.out.frozen 5
        have HE := Lib.hid ((((((HZ.out.set 0 (.int .i64 i)).set 1 (.int .i64 2)).set 2 (.int .i64 x)).set 3 (.int .i64 y)).set 4 (.int .i64 u)).set 5 (.int .i64 0))
        have HCe := Lib.hid (Cur.set (Cur.set (Cur.set (Cur.set (Cur.set (Cur.set HC.out hzp (i := 0) (v := .int .i64 i)) hzp (i := 1) (v := .int .i64 2)) hzp (i := 2) (v := .int .i64 x)) hzp (i := 3) (v := .int .i64 y)) hzp (i := 4) (v := .int .i64 u)) hzp (i := 5) (v := .int .i64 0))
        have HGe := Lib.hid (grown_put (grown_put (grown_put (grown_put (grown_put (grown_put HG.out (Nat.le_refl _) (i := 0) (v := .int .i64 i)) (Nat.le_refl _) (i := 1) (v := .int .i64 2)) (Nat.le_refl _) (i := 2) (v := .int .i64 x)) (Nat.le_refl _) (i := 3) (v := .int .i64 y)) (Nat.le_refl _) (i := 4) (v := .int .i64 u)) (Nat.le_refl _) (i := 5) (v := .int .i64 0))
        clear HT HZ HC HG
        go_wp2_with fail
        have hl := HE.out.load Tryz.underlying25 rfl (by kernel_rfl)
        refine bodyPost_ret (v := .agg #[.int .i64 i, .int .i64 2, .int .i64 x, .int .i64 y, .int .i64 u, .int .i64 0]) ?_ rfl ⟨_, _, _, _, _, _, rfl, HCe.out.more (by omega), HGe.out⟩
        rw [ats.results_cell1 rfl]
        simp [asAddr, Result.andThen, hl]
      have d0 : (k == 0) = false := by simpa using h0
      by_cases h1 : k = 1
      · subst h1
        go_wp2_with fail
        refine (among_new (-1) 4 p _ 4 [0, 1, 4, -1] _ wk HC.out (by omega) (by omega) (by omega) rfl rfl (by decide)).mono ?_
        rintro e wu ⟨u, rfl, u0, u1, hc, hg⟩
        have HT := Lib.hid (HT.out.grown hg (Nat.ne_of_gt htp))
        have HZ := Lib.hid (HZ.out.grown hg (Nat.ne_of_gt hzp))
        have HC := Lib.hid hc
        have HG := Lib.hid (grown_trans HG.out hg)
        clear hc hg
        have t0 : wu.cell? ⟨b, 0, none⟩ = some (.int .i64 i) := HT.out.cell 0 _ rfl
        have tf0 := HT.out.frozen 0
        have t1 : wu.cell? ⟨b, 1, none⟩ = some (.int .i64 2) := HT.out.cell 1 _ rfl
        have tf1 := HT.out.frozen 1
        have t2 : wu.cell? ⟨b, 2, none⟩ = some (.int .i64 x) := HT.out.cell 2 _ rfl
        have tf2 := HT.out.frozen 2
        have t3 : wu.cell? ⟨b, 3, none⟩ = some (.int .i64 y) := HT.out.cell 3 _ rfl
        have tf3 := HT.out.frozen 3
        have t4 : wu.cell? ⟨b, 4, none⟩ = some (.int .i64 c4) := HT.out.cell 4 _ rfl
        have tf4 := HT.out.frozen 4
        have t5 : wu.cell? ⟨b, 5, none⟩ = some (.int .i64 0) := HT.out.cell 5 _ rfl
        have tf5 := HT.out.frozen 5
        go_upto_region 19 with fail
        clear t0 tf0 t1 tf1 t2 tf2 t3 tf3 t4 tf4 t5 tf5
        have HT := Lib.hid (HT.out.set 5 (.int .i64 u))
        have HZ := Lib.hid (HZ.out.other (Nat.ne_of_lt hzt) 5 (.int .i64 u))
        have HC := Lib.hid (Cur.set HC.out htp (i := 5) (v := .int .i64 u))
        have HG := Lib.hid (grown_put HG.out (Nat.le_of_lt hzt) (i := 5) (v := .int .i64 u))
        generalize wu.setCell ⟨b, 5, none⟩ (.int .i64 u) = wv at *
        have z0 : wv.cell? ⟨w.heap.size, 0, none⟩ = some (.int .i64 0) := HZ.out.cell 0 _ rfl
        have zf0 := HZ.out.frozen 0
        have z1 : wv.cell? ⟨w.heap.size, 1, none⟩ = some (.int .i64 0) := HZ.out.cell 1 _ rfl
        have zf1 := HZ.out.frozen 1
        have z2 : wv.cell? ⟨w.heap.size, 2, none⟩ = some (.int .i64 0) := HZ.out.cell 2 _ rfl
        have zf2 := HZ.out.frozen 2
        have z3 : wv.cell? ⟨w.heap.size, 3, none⟩ = some (.int .i64 0) := HZ.out.cell 3 _ rfl
        have zf3 := HZ.out.frozen 3
        have z4 : wv.cell? ⟨w.heap.size, 4, none⟩ = some (.int .i64 0) := HZ.out.cell 4 _ rfl
        have zf4 := HZ.out.frozen 4
        have z5 : wv.cell? ⟨w.heap.size, 5, none⟩ = some (.int .i64 0) := HZ.out.cell 5 _ rfl
        have zf5 := HZ.out.frozen 5
        have t0 : wv.cell? ⟨b, 0, none⟩ = some (.int .i64 i) := HT.out.cell 0 _ rfl
        have tf0 := HT.out.frozen 0
        have t1 : wv.cell? ⟨b, 1, none⟩ = some (.int .i64 2) := HT.out.cell 1 _ rfl
        have tf1 := HT.out.frozen 1
        have t2 : wv.cell? ⟨b, 2, none⟩ = some (.int .i64 x) := HT.out.cell 2 _ rfl
        have tf2 := HT.out.frozen 2
        have t3 : wv.cell? ⟨b, 3, none⟩ = some (.int .i64 y) := HT.out.cell 3 _ rfl
        have tf3 := HT.out.frozen 3
        have t4 : wv.cell? ⟨b, 4, none⟩ = some (.int .i64 c4) := HT.out.cell 4 _ rfl
        have tf4 := HT.out.frozen 4
        have t5 : wv.cell? ⟨b, 5, none⟩ = some (.int .i64 u) := HT.out.cell 5 _ rfl
        have tf5 := HT.out.frozen 5
        have HE := Lib.hid ((((((HZ.out.set 0 (.int .i64 i)).set 1 (.int .i64 2)).set 2 (.int .i64 x)).set 3 (.int .i64 y)).set 4 (.int .i64 c4)).set 5 (.int .i64 u))
        have HCe := Lib.hid (Cur.set (Cur.set (Cur.set (Cur.set (Cur.set (Cur.set HC.out hzp (i := 0) (v := .int .i64 i)) hzp (i := 1) (v := .int .i64 2)) hzp (i := 2) (v := .int .i64 x)) hzp (i := 3) (v := .int .i64 y)) hzp (i := 4) (v := .int .i64 c4)) hzp (i := 5) (v := .int .i64 u))
        have HGe := Lib.hid (grown_put (grown_put (grown_put (grown_put (grown_put (grown_put HG.out (Nat.le_refl _) (i := 0) (v := .int .i64 i)) (Nat.le_refl _) (i := 1) (v := .int .i64 2)) (Nat.le_refl _) (i := 2) (v := .int .i64 x)) (Nat.le_refl _) (i := 3) (v := .int .i64 y)) (Nat.le_refl _) (i := 4) (v := .int .i64 c4)) (Nat.le_refl _) (i := 5) (v := .int .i64 u))
        clear HT HZ HC HG
        go_wp2_with fail
        have hl := HE.out.load Tryz.underlying25 rfl (by kernel_rfl)
        refine bodyPost_ret (v := .agg #[.int .i64 i, .int .i64 2, .int .i64 x, .int .i64 y, .int .i64 c4, .int .i64 u]) ?_ rfl ⟨_, _, _, _, _, _, rfl, HCe.out.more (by omega), HGe.out⟩
        rw [ats.results_cell1 rfl]
        simp [asAddr, Result.andThen, hl]
      have d1 : (k == 1) = false := by simpa using h1
      by_cases h2 : k = 2
      · subst h2
        go_wp2_with fail
        refine (among_new (-1) 9900 p _ 3 [-1, 9900, 9899] _ wk HC.out (by omega) (by omega) (by omega) rfl rfl (by decide)).mono ?_
        rintro e wu ⟨u, rfl, u0, u1, hc, hg⟩
        have HT := Lib.hid (HT.out.grown hg (Nat.ne_of_gt htp))
        have HZ := Lib.hid (HZ.out.grown hg (Nat.ne_of_gt hzp))
        have HC := Lib.hid hc
        have HG := Lib.hid (grown_trans HG.out hg)
        clear hc hg
        have t0 : wu.cell? ⟨b, 0, none⟩ = some (.int .i64 i) := HT.out.cell 0 _ rfl
        have tf0 := HT.out.frozen 0
        have t1 : wu.cell? ⟨b, 1, none⟩ = some (.int .i64 2) := HT.out.cell 1 _ rfl
        have tf1 := HT.out.frozen 1
        have t2 : wu.cell? ⟨b, 2, none⟩ = some (.int .i64 x) := HT.out.cell 2 _ rfl
        have tf2 := HT.out.frozen 2
        have t3 : wu.cell? ⟨b, 3, none⟩ = some (.int .i64 y) := HT.out.cell 3 _ rfl
        have tf3 := HT.out.frozen 3
        have t4 : wu.cell? ⟨b, 4, none⟩ = some (.int .i64 c4) := HT.out.cell 4 _ rfl
        have tf4 := HT.out.frozen 4
        have t5 : wu.cell? ⟨b, 5, none⟩ = some (.int .i64 0) := HT.out.cell 5 _ rfl
        have tf5 := HT.out.frozen 5
        go_upto_region 19 with fail
        clear t0 tf0 t1 tf1 t2 tf2 t3 tf3 t4 tf4 t5 tf5
        have HT := Lib.hid (HT.out.set 2 (.int .i64 u))
        have HZ := Lib.hid (HZ.out.other (Nat.ne_of_lt hzt) 2 (.int .i64 u))
        have HC := Lib.hid (Cur.set HC.out htp (i := 2) (v := .int .i64 u))
        have HG := Lib.hid (grown_put HG.out (Nat.le_of_lt hzt) (i := 2) (v := .int .i64 u))
        generalize wu.setCell ⟨b, 2, none⟩ (.int .i64 u) = wv at *
        have z0 : wv.cell? ⟨w.heap.size, 0, none⟩ = some (.int .i64 0) := HZ.out.cell 0 _ rfl
        have zf0 := HZ.out.frozen 0
        have z1 : wv.cell? ⟨w.heap.size, 1, none⟩ = some (.int .i64 0) := HZ.out.cell 1 _ rfl
        have zf1 := HZ.out.frozen 1
        have z2 : wv.cell? ⟨w.heap.size, 2, none⟩ = some (.int .i64 0) := HZ.out.cell 2 _ rfl
        have zf2 := HZ.out.frozen 2
        have z3 : wv.cell? ⟨w.heap.size, 3, none⟩ = some (.int .i64 0) := HZ.out.cell 3 _ rfl
        have zf3 := HZ.out.frozen 3
        have z4 : wv.cell? ⟨w.heap.size, 4, none⟩ = some (.int .i64 0) := HZ.out.cell 4 _ rfl
        have zf4 := HZ.out.frozen 4
        have z5 : wv.cell? ⟨w.heap.size, 5, none⟩ = some (.int .i64 0) := HZ.out.cell 5 _ rfl
        have zf5 := HZ.out.frozen 5
        have t0 : wv.cell? ⟨b, 0, none⟩ = some (.int .i64 i) := HT.out.cell 0 _ rfl
        have tf0 := HT.out.frozen 0
        have t1 : wv.cell? ⟨b, 1, none⟩ = some (.int .i64 2) := HT.out.cell 1 _ rfl
        have tf1 := HT.out.frozen 1
        have t2 : wv.cell? ⟨b, 2, none⟩ = some (.int .i64 u) := HT.out.cell 2 _ rfl
        have tf2 := HT.out.frozen 2
        have t3 : wv.cell? ⟨b, 3, none⟩ = some (.int .i64 y) := HT.out.cell 3 _ rfl
        have tf3 := HT.out.frozen 3
        have t4 : wv.cell? ⟨b, 4, none⟩ = some (.int .i64 c4) := HT.out.cell 4 _ rfl
        have tf4 := HT.out.frozen 4
        have t5 : wv.cell? ⟨b, 5, none⟩ = some (.int .i64 0) := HT.out.cell 5 _ rfl
        have tf5 := HT.out.frozen 5
        have HE := Lib.hid ((((((HZ.out.set 0 (.int .i64 i)).set 1 (.int .i64 2)).set 2 (.int .i64 u)).set 3 (.int .i64 y)).set 4 (.int .i64 c4)).set 5 (.int .i64 0))
        have HCe := Lib.hid (Cur.set (Cur.set (Cur.set (Cur.set (Cur.set (Cur.set HC.out hzp (i := 0) (v := .int .i64 i)) hzp (i := 1) (v := .int .i64 2)) hzp (i := 2) (v := .int .i64 u)) hzp (i := 3) (v := .int .i64 y)) hzp (i := 4) (v := .int .i64 c4)) hzp (i := 5) (v := .int .i64 0))
        have HGe := Lib.hid (grown_put (grown_put (grown_put (grown_put (grown_put (grown_put HG.out (Nat.le_refl _) (i := 0) (v := .int .i64 i)) (Nat.le_refl _) (i := 1) (v := .int .i64 2)) (Nat.le_refl _) (i := 2) (v := .int .i64 u)) (Nat.le_refl _) (i := 3) (v := .int .i64 y)) (Nat.le_refl _) (i := 4) (v := .int .i64 c4)) (Nat.le_refl _) (i := 5) (v := .int .i64 0))
        clear HT HZ HC HG
        go_wp2_with fail
        have hl := HE.out.load Tryz.underlying25 rfl (by kernel_rfl)
        refine bodyPost_ret (v := .agg #[.int .i64 i, .int .i64 2, .int .i64 u, .int .i64 y, .int .i64 c4, .int .i64 0]) ?_ rfl ⟨_, _, _, _, _, _, rfl, HCe.out.more (by omega), HGe.out⟩
        rw [ats.results_cell1 rfl]
        simp [asAddr, Result.andThen, hl]
      have d2 : (k == 2) = false := by simpa using h2
      by_cases h3 : k = 3
      · subst h3
        go_wp2_with fail
        refine (among_new (0) 4 p _ 2 [0, 4] _ wk HC.out (by omega) (by omega) (by omega) rfl rfl (by decide)).mono ?_
        rintro e wu ⟨u, rfl, u0, u1, hc, hg⟩
        have HT := Lib.hid (HT.out.grown hg (Nat.ne_of_gt htp))
        have HZ := Lib.hid (HZ.out.grown hg (Nat.ne_of_gt hzp))
        have HC := Lib.hid hc
        have HG := Lib.hid (grown_trans HG.out hg)
        clear hc hg
        have t0 : wu.cell? ⟨b, 0, none⟩ = some (.int .i64 i) := HT.out.cell 0 _ rfl
        have tf0 := HT.out.frozen 0
        have t1 : wu.cell? ⟨b, 1, none⟩ = some (.int .i64 2) := HT.out.cell 1 _ rfl
        have tf1 := HT.out.frozen 1
        have t2 : wu.cell? ⟨b, 2, none⟩ = some (.int .i64 x) := HT.out.cell 2 _ rfl
        have tf2 := HT.out.frozen 2
        have t3 : wu.cell? ⟨b, 3, none⟩ = some (.int .i64 y) := HT.out.cell 3 _ rfl
        have tf3 := HT.out.frozen 3
        have t4 : wu.cell? ⟨b, 4, none⟩ = some (.int .i64 c4) := HT.out.cell 4 _ rfl
        have tf4 := HT.out.frozen 4
        have t5 : wu.cell? ⟨b, 5, none⟩ = some (.int .i64 0) := HT.out.cell 5 _ rfl
        have tf5 := HT.out.frozen 5
        go_upto_region 19 with fail
        clear t0 tf0 t1 tf1 t2 tf2 t3 tf3 t4 tf4 t5 tf5
        have HT := Lib.hid (HT.out.set 1 (.int .i64 u))
        have HZ := Lib.hid (HZ.out.other (Nat.ne_of_lt hzt) 1 (.int .i64 u))
        have HC := Lib.hid (Cur.set HC.out htp (i := 1) (v := .int .i64 u))
        have HG := Lib.hid (grown_put HG.out (Nat.le_of_lt hzt) (i := 1) (v := .int .i64 u))
        generalize wu.setCell ⟨b, 1, none⟩ (.int .i64 u) = wv at *
        have z0 : wv.cell? ⟨w.heap.size, 0, none⟩ = some (.int .i64 0) := HZ.out.cell 0 _ rfl
        have zf0 := HZ.out.frozen 0
        have z1 : wv.cell? ⟨w.heap.size, 1, none⟩ = some (.int .i64 0) := HZ.out.cell 1 _ rfl
        have zf1 := HZ.out.frozen 1
        have z2 : wv.cell? ⟨w.heap.size, 2, none⟩ = some (.int .i64 0) := HZ.out.cell 2 _ rfl
        have zf2 := HZ.out.frozen 2
        have z3 : wv.cell? ⟨w.heap.size, 3, none⟩ = some (.int .i64 0) := HZ.out.cell 3 _ rfl
        have zf3 := HZ.out.frozen 3
        have z4 : wv.cell? ⟨w.heap.size, 4, none⟩ = some (.int .i64 0) := HZ.out.cell 4 _ rfl
        have zf4 := HZ.out.frozen 4
        have z5 : wv.cell? ⟨w.heap.size, 5, none⟩ = some (.int .i64 0) := HZ.out.cell 5 _ rfl
        have zf5 := HZ.out.frozen 5
        have t0 : wv.cell? ⟨b, 0, none⟩ = some (.int .i64 i) := HT.out.cell 0 _ rfl
        have tf0 := HT.out.frozen 0
        have t1 : wv.cell? ⟨b, 1, none⟩ = some (.int .i64 u) := HT.out.cell 1 _ rfl
        have tf1 := HT.out.frozen 1
        have t2 : wv.cell? ⟨b, 2, none⟩ = some (.int .i64 x) := HT.out.cell 2 _ rfl
        have tf2 := HT.out.frozen 2
        have t3 : wv.cell? ⟨b, 3, none⟩ = some (.int .i64 y) := HT.out.cell 3 _ rfl
        have tf3 := HT.out.frozen 3
        have t4 : wv.cell? ⟨b, 4, none⟩ = some (.int .i64 c4) := HT.out.cell 4 _ rfl
        have tf4 := HT.out.frozen 4
        have t5 : wv.cell? ⟨b, 5, none⟩ = some (.int .i64 0) := HT.out.cell 5 _ rfl
        have tf5 := HT.out.frozen 5
        have HE := Lib.hid ((((((HZ.out.set 0 (.int .i64 i)).set 1 (.int .i64 u)).set 2 (.int .i64 x)).set 3 (.int .i64 y)).set 4 (.int .i64 c4)).set 5 (.int .i64 0))
        have HCe := Lib.hid (Cur.set (Cur.set (Cur.set (Cur.set (Cur.set (Cur.set HC.out hzp (i := 0) (v := .int .i64 i)) hzp (i := 1) (v := .int .i64 u)) hzp (i := 2) (v := .int .i64 x)) hzp (i := 3) (v := .int .i64 y)) hzp (i := 4) (v := .int .i64 c4)) hzp (i := 5) (v := .int .i64 0))
        have HGe := Lib.hid (grown_put (grown_put (grown_put (grown_put (grown_put (grown_put HG.out (Nat.le_refl _) (i := 0) (v := .int .i64 i)) (Nat.le_refl _) (i := 1) (v := .int .i64 u)) (Nat.le_refl _) (i := 2) (v := .int .i64 x)) (Nat.le_refl _) (i := 3) (v := .int .i64 y)) (Nat.le_refl _) (i := 4) (v := .int .i64 c4)) (Nat.le_refl _) (i := 5) (v := .int .i64 0))
        clear HT HZ HC HG
        go_wp2_with fail
        have hl := HE.out.load Tryz.underlying25 rfl (by kernel_rfl)
        refine bodyPost_ret (v := .agg #[.int .i64 i, .int .i64 u, .int .i64 x, .int .i64 y, .int .i64 c4, .int .i64 0]) ?_ rfl ⟨_, _, _, _, _, _, rfl, HCe.out.more (by omega), HGe.out⟩
        rw [ats.results_cell1 rfl]
        simp [asAddr, Result.andThen, hl]
      have d3 : (k == 3) = false := by simpa using h3
      have z0 : wk.cell? ⟨w.heap.size, 0, none⟩ = some (.int .i64 0) := HZ.out.cell 0 _ rfl
      have zf0 := HZ.out.frozen 0
      have z1 : wk.cell? ⟨w.heap.size, 1, none⟩ = some (.int .i64 0) := HZ.out.cell 1 _ rfl
      have zf1 := HZ.out.frozen 1
      have z2 : wk.cell? ⟨w.heap.size, 2, none⟩ = some (.int .i64 0) := HZ.out.cell 2 _ rfl
      have zf2 := HZ.out.frozen 2
      have z3 : wk.cell? ⟨w.heap.size, 3, none⟩ = some (.int .i64 0) := HZ.out.cell 3 _ rfl
      have zf3 := HZ.out.frozen 3
      have z4 : wk.cell? ⟨w.heap.size, 4, none⟩ = some (.int .i64 0) := HZ.out.cell 4 _ rfl
      have zf4 := HZ.out.frozen 4
      have z5 : wk.cell? ⟨w.heap.size, 5, none⟩ = some (.int .i64 0) := HZ.out.cell 5 _ rfl
      have zf5 := HZ.out.frozen 5
      have t0 : wk.cell? ⟨b, 0, none⟩ = some (.int .i64 i) := HT.out.cell 0 _ rfl
      have tf0 := HT.out.frozen 0
      have t1 : wk.cell? ⟨b, 1, none⟩ = some (.int .i64 2) := HT.out.cell 1 _ rfl
      have tf1 := HT.out.frozen 1
      have t2 : wk.cell? ⟨b, 2, none⟩ = some (.int .i64 x) := HT.out.cell 2 _ rfl
      have tf2 := HT.out.frozen 2
      have t3 : wk.cell? ⟨b, 3, none⟩ = some (.int .i64 y) := HT.out.cell 3 _ rfl
      have tf3 := HT.out.frozen 3
      have t4 : wk.cell? ⟨b, 4, none⟩ = some (.int .i64 c4) := HT.out.cell 4 _ rfl
      have tf4 := HT.out.frozen 4
      have t5 : wk.cell? ⟨b, 5, none⟩ = some (.int .i64 0) := HT.out.cell 5 _ rfl
      have tf5 := HT.out.frozen 5
      have HE := Lib.hid ((((((HZ.out.set 0 (.int .i64 i)).set 1 (.int .i64 2)).set 2 (.int .i64 x)).set 3 (.int .i64 y)).set 4 (.int .i64 c4)).set 5 (.int .i64 0))
      have HCe := Lib.hid (Cur.set (Cur.set (Cur.set (Cur.set (Cur.set (Cur.set HC.out hzp (i := 0) (v := .int .i64 i)) hzp (i := 1) (v := .int .i64 2)) hzp (i := 2) (v := .int .i64 x)) hzp (i := 3) (v := .int .i64 y)) hzp (i := 4) (v := .int .i64 c4)) hzp (i := 5) (v := .int .i64 0))
      have HGe := Lib.hid (grown_put (grown_put (grown_put (grown_put (grown_put (grown_put HG.out (Nat.le_refl _) (i := 0) (v := .int .i64 i)) (Nat.le_refl _) (i := 1) (v := .int .i64 2)) (Nat.le_refl _) (i := 2) (v := .int .i64 x)) (Nat.le_refl _) (i := 3) (v := .int .i64 y)) (Nat.le_refl _) (i := 4) (v := .int .i64 c4)) (Nat.le_refl _) (i := 5) (v := .int .i64 0))
      clear HT HZ HC HG
      go_wp2_with fail
      have hl := HE.out.load Tryz.underlying25 rfl (by kernel_rfl)
      refine bodyPost_ret (v := .agg #[.int .i64 i, .int .i64 2, .int .i64 x, .int .i64 y, .int .i64 c4, .int .i64 0]) ?_ rfl ⟨_, _, _, _, _, _, rfl, HCe.out.more (by omega), HGe.out⟩
      rw [ats.results_cell1 rfl]
      simp [asAddr, Result.andThen, hl]
    have e_2 : (s == 2) = false := by simpa using g2
    go_wp2_with fail
    refine (pick p _ 9 wc HC.out (by omega) (by omega) (by omega)).mono ?_
    rintro e wr ⟨r, rfl, r0, r1, hc, hg⟩
    clear t0 tf0 t1 tf1 t2 tf2 t3 tf3 t4 tf4 t5 tf5
    have HT := Lib.hid (HT.out.grown hg (Nat.ne_of_gt htp))
    have HZ := Lib.hid (HZ.out.grown hg (Nat.ne_of_gt hzp))
    have HC := Lib.hid hc
    have HG := Lib.hid (grown_trans HG.out hg)
    clear hc hg
    have e1 : IntKind.i64.wrap (3 + r) = 3 + r := IntWalk.i64_in _ (by omega)
    have t0 : wr.cell? ⟨b, 0, none⟩ = some (.int .i64 i) := HT.out.cell 0 _ rfl
    have tf0 := HT.out.frozen 0
    have t1 : wr.cell? ⟨b, 1, none⟩ = some (.int .i64 s) := HT.out.cell 1 _ rfl
    have tf1 := HT.out.frozen 1
    have t2 : wr.cell? ⟨b, 2, none⟩ = some (.int .i64 x) := HT.out.cell 2 _ rfl
    have tf2 := HT.out.frozen 2
    have t3 : wr.cell? ⟨b, 3, none⟩ = some (.int .i64 y) := HT.out.cell 3 _ rfl
    have tf3 := HT.out.frozen 3
    have t4 : wr.cell? ⟨b, 4, none⟩ = some (.int .i64 0) := HT.out.cell 4 _ rfl
    have tf4 := HT.out.frozen 4
    have t5 : wr.cell? ⟨b, 5, none⟩ = some (.int .i64 0) := HT.out.cell 5 _ rfl
    have tf5 := HT.out.frozen 5
    go_upto_region 5 with fail
    clear t0 tf0 t1 tf1 t2 tf2 t3 tf3 t4 tf4 t5 tf5
    have HT := Lib.hid (HT.out.set 4 (.int .i64 (3 + r)))
    have HZ := Lib.hid (HZ.out.other (Nat.ne_of_lt hzt) 4 (.int .i64 (3 + r)))
    have HC := Lib.hid (Cur.set HC.out htp (i := 4) (v := .int .i64 (3 + r)))
    have HG := Lib.hid (grown_put HG.out (Nat.le_of_lt hzt) (i := 4) (v := .int .i64 (3 + r)))
    generalize wr.setCell ⟨b, 4, none⟩ (.int .i64 (3 + r)) = wrv at *
    generalize 3 + r = c4 at *
    clear e1 r0 r1
    have t0 : wrv.cell? ⟨b, 0, none⟩ = some (.int .i64 i) := HT.out.cell 0 _ rfl
    have tf0 := HT.out.frozen 0
    have t1 : wrv.cell? ⟨b, 1, none⟩ = some (.int .i64 s) := HT.out.cell 1 _ rfl
    have tf1 := HT.out.frozen 1
    have t2 : wrv.cell? ⟨b, 2, none⟩ = some (.int .i64 x) := HT.out.cell 2 _ rfl
    have tf2 := HT.out.frozen 2
    have t3 : wrv.cell? ⟨b, 3, none⟩ = some (.int .i64 y) := HT.out.cell 3 _ rfl
    have tf3 := HT.out.frozen 3
    have t4 : wrv.cell? ⟨b, 4, none⟩ = some (.int .i64 c4) := HT.out.cell 4 _ rfl
    have tf4 := HT.out.frozen 4
    have t5 : wrv.cell? ⟨b, 5, none⟩ = some (.int .i64 0) := HT.out.cell 5 _ rfl
    have tf5 := HT.out.frozen 5
    go_wp2_with fail
    refine (pick p _ 3 wrv HC.out (by omega) (by omega) (by omega)).mono ?_
    rintro e wt ⟨r, rfl, r0, r1, hc, hg⟩
    clear t0 tf0 t1 tf1 t2 tf2 t3 tf3 t4 tf4 t5 tf5
    have HT := Lib.hid (HT.out.grown hg (Nat.ne_of_gt htp))
    have HZ := Lib.hid (HZ.out.grown hg (Nat.ne_of_gt hzp))
    have HC := Lib.hid hc
    have HG := Lib.hid (grown_trans HG.out hg)
    clear hc hg
    have e1 : IntKind.i64.wrap (1 + r) = 1 + r := IntWalk.i64_in _ (by omega)
    have t0 : wt.cell? ⟨b, 0, none⟩ = some (.int .i64 i) := HT.out.cell 0 _ rfl
    have tf0 := HT.out.frozen 0
    have t1 : wt.cell? ⟨b, 1, none⟩ = some (.int .i64 s) := HT.out.cell 1 _ rfl
    have tf1 := HT.out.frozen 1
    have t2 : wt.cell? ⟨b, 2, none⟩ = some (.int .i64 x) := HT.out.cell 2 _ rfl
    have tf2 := HT.out.frozen 2
    have t3 : wt.cell? ⟨b, 3, none⟩ = some (.int .i64 y) := HT.out.cell 3 _ rfl
    have tf3 := HT.out.frozen 3
    have t4 : wt.cell? ⟨b, 4, none⟩ = some (.int .i64 c4) := HT.out.cell 4 _ rfl
    have tf4 := HT.out.frozen 4
    have t5 : wt.cell? ⟨b, 5, none⟩ = some (.int .i64 0) := HT.out.cell 5 _ rfl
    have tf5 := HT.out.frozen 5
    go_upto_region 10 with fail
    clear t0 tf0 t1 tf1 t2 tf2 t3 tf3 t4 tf4 t5 tf5
    have HT := Lib.hid (HT.out.set 5 (.int .i64 (1 + r)))
    have HZ := Lib.hid (HZ.out.other (Nat.ne_of_lt hzt) 5 (.int .i64 (1 + r)))
    have HC := Lib.hid (Cur.set HC.out htp (i := 5) (v := .int .i64 (1 + r)))
    have HG := Lib.hid (grown_put HG.out (Nat.le_of_lt hzt) (i := 5) (v := .int .i64 (1 + r)))
    generalize wt.setCell ⟨b, 5, none⟩ (.int .i64 (1 + r)) = wtv at *
    generalize 1 + r = c5 at *
    clear e1 r0 r1
    have t0 : wtv.cell? ⟨b, 0, none⟩ = some (.int .i64 i) := HT.out.cell 0 _ rfl
    have tf0 := HT.out.frozen 0
    have t1 : wtv.cell? ⟨b, 1, none⟩ = some (.int .i64 s) := HT.out.cell 1 _ rfl
    have tf1 := HT.out.frozen 1
    have t2 : wtv.cell? ⟨b, 2, none⟩ = some (.int .i64 x) := HT.out.cell 2 _ rfl
    have tf2 := HT.out.frozen 2
    have t3 : wtv.cell? ⟨b, 3, none⟩ = some (.int .i64 y) := HT.out.cell 3 _ rfl
    have tf3 := HT.out.frozen 3
    have t4 : wtv.cell? ⟨b, 4, none⟩ = some (.int .i64 c4) := HT.out.cell 4 _ rfl
    have tf4 := HT.out.frozen 4
    have t5 : wtv.cell? ⟨b, 5, none⟩ = some (.int .i64 c5) := HT.out.cell 5 _ rfl
    have tf5 := HT.out.frozen 5
    go_upto_region 10 with fail
    clear t0 tf0 t1 tf1 t2 tf2 t3 tf3 t4 tf4 t5 tf5
    go_wp2_with fail
    refine (pick p _ 24 wtv HC.out (by omega) (by omega) (by omega)).mono ?_
    rintro e wk ⟨k, rfl, k0, k1, hc, hg⟩
    have HT := Lib.hid (HT.out.grown hg (Nat.ne_of_gt htp))
    have HZ := Lib.hid (HZ.out.grown hg (Nat.ne_of_gt hzp))
    have HC := Lib.hid hc
    have HG := Lib.hid (grown_trans HG.out hg)
    clear hc hg
    by_cases h0 : k = 0
    · subst h0
      go_wp2_with fail
      refine (among_new (0) 10000 p _ 5 [0, 2, 3, 9999, 10000] _ wk HC.out (by omega) (by omega) (by omega) rfl rfl (by decide)).mono ?_
      rintro e wu ⟨u, rfl, u0, u1, hc, hg⟩
      have HT := Lib.hid (HT.out.grown hg (Nat.ne_of_gt htp))
      have HZ := Lib.hid (HZ.out.grown hg (Nat.ne_of_gt hzp))
      have HC := Lib.hid hc
      have HG := Lib.hid (grown_trans HG.out hg)
      clear hc hg
      have t0 : wu.cell? ⟨b, 0, none⟩ = some (.int .i64 i) := HT.out.cell 0 _ rfl
      have tf0 := HT.out.frozen 0
      have t1 : wu.cell? ⟨b, 1, none⟩ = some (.int .i64 s) := HT.out.cell 1 _ rfl
      have tf1 := HT.out.frozen 1
      have t2 : wu.cell? ⟨b, 2, none⟩ = some (.int .i64 x) := HT.out.cell 2 _ rfl
      have tf2 := HT.out.frozen 2
      have t3 : wu.cell? ⟨b, 3, none⟩ = some (.int .i64 y) := HT.out.cell 3 _ rfl
      have tf3 := HT.out.frozen 3
      have t4 : wu.cell? ⟨b, 4, none⟩ = some (.int .i64 c4) := HT.out.cell 4 _ rfl
      have tf4 := HT.out.frozen 4
      have t5 : wu.cell? ⟨b, 5, none⟩ = some (.int .i64 c5) := HT.out.cell 5 _ rfl
      have tf5 := HT.out.frozen 5
      go_upto_region 19 with fail
      clear t0 tf0 t1 tf1 t2 tf2 t3 tf3 t4 tf4 t5 tf5
      have HT := Lib.hid (HT.out.set 4 (.int .i64 u))
      have HZ := Lib.hid (HZ.out.other (Nat.ne_of_lt hzt) 4 (.int .i64 u))
      have HC := Lib.hid (Cur.set HC.out htp (i := 4) (v := .int .i64 u))
      have HG := Lib.hid (grown_put HG.out (Nat.le_of_lt hzt) (i := 4) (v := .int .i64 u))
      generalize wu.setCell ⟨b, 4, none⟩ (.int .i64 u) = wv at *
      have z0 : wv.cell? ⟨w.heap.size, 0, none⟩ = some (.int .i64 0) := HZ.out.cell 0 _ rfl
      have zf0 := HZ.out.frozen 0
      have z1 : wv.cell? ⟨w.heap.size, 1, none⟩ = some (.int .i64 0) := HZ.out.cell 1 _ rfl
      have zf1 := HZ.out.frozen 1
      have z2 : wv.cell? ⟨w.heap.size, 2, none⟩ = some (.int .i64 0) := HZ.out.cell 2 _ rfl
      have zf2 := HZ.out.frozen 2
      have z3 : wv.cell? ⟨w.heap.size, 3, none⟩ = some (.int .i64 0) := HZ.out.cell 3 _ rfl
      have zf3 := HZ.out.frozen 3
      have z4 : wv.cell? ⟨w.heap.size, 4, none⟩ = some (.int .i64 0) := HZ.out.cell 4 _ rfl
      have zf4 := HZ.out.frozen 4
      have z5 : wv.cell? ⟨w.heap.size, 5, none⟩ = some (.int .i64 0) := HZ.out.cell 5 _ rfl
      have zf5 := HZ.out.frozen 5
      have t0 : wv.cell? ⟨b, 0, none⟩ = some (.int .i64 i) := HT.out.cell 0 _ rfl
      have tf0 := HT.out.frozen 0
      have t1 : wv.cell? ⟨b, 1, none⟩ = some (.int .i64 s) := HT.out.cell 1 _ rfl
      have tf1 := HT.out.frozen 1
      have t2 : wv.cell? ⟨b, 2, none⟩ = some (.int .i64 x) := HT.out.cell 2 _ rfl
      have tf2 := HT.out.frozen 2
      have t3 : wv.cell? ⟨b, 3, none⟩ = some (.int .i64 y) := HT.out.cell 3 _ rfl
      have tf3 := HT.out.frozen 3
      have t4 : wv.cell? ⟨b, 4, none⟩ = some (.int .i64 u) := HT.out.cell 4 _ rfl
      have tf4 := HT.out.frozen 4
      have t5 : wv.cell? ⟨b, 5, none⟩ = some (.int .i64 c5) := HT.out.cell 5 _ rfl
      have tf5 := HT.out.frozen 5
      have HE := Lib.hid ((((((HZ.out.set 0 (.int .i64 i)).set 1 (.int .i64 s)).set 2 (.int .i64 x)).set 3 (.int .i64 y)).set 4 (.int .i64 u)).set 5 (.int .i64 c5))
      have HCe := Lib.hid (Cur.set (Cur.set (Cur.set (Cur.set (Cur.set (Cur.set HC.out hzp (i := 0) (v := .int .i64 i)) hzp (i := 1) (v := .int .i64 s)) hzp (i := 2) (v := .int .i64 x)) hzp (i := 3) (v := .int .i64 y)) hzp (i := 4) (v := .int .i64 u)) hzp (i := 5) (v := .int .i64 c5))
      have HGe := Lib.hid (grown_put (grown_put (grown_put (grown_put (grown_put (grown_put HG.out (Nat.le_refl _) (i := 0) (v := .int .i64 i)) (Nat.le_refl _) (i := 1) (v := .int .i64 s)) (Nat.le_refl _) (i := 2) (v := .int .i64 x)) (Nat.le_refl _) (i := 3) (v := .int .i64 y)) (Nat.le_refl _) (i := 4) (v := .int .i64 u)) (Nat.le_refl _) (i := 5) (v := .int .i64 c5))
      clear HT HZ HC HG
      go_wp2_with fail
      have hl := HE.out.load Tryz.underlying25 rfl (by kernel_rfl)
      refine bodyPost_ret (v := .agg #[.int .i64 i, .int .i64 s, .int .i64 x, .int .i64 y, .int .i64 u, .int .i64 c5]) ?_ rfl ⟨_, _, _, _, _, _, rfl, HCe.out.more (by omega), HGe.out⟩
      rw [ats.results_cell1 rfl]
      simp [asAddr, Result.andThen, hl]
    have d0 : (k == 0) = false := by simpa using h0
    by_cases h1 : k = 1
    · subst h1
      go_wp2_with fail
      refine (among_new (-1) 4 p _ 4 [0, 1, 4, -1] _ wk HC.out (by omega) (by omega) (by omega) rfl rfl (by decide)).mono ?_
      rintro e wu ⟨u, rfl, u0, u1, hc, hg⟩
      have HT := Lib.hid (HT.out.grown hg (Nat.ne_of_gt htp))
      have HZ := Lib.hid (HZ.out.grown hg (Nat.ne_of_gt hzp))
      have HC := Lib.hid hc
      have HG := Lib.hid (grown_trans HG.out hg)
      clear hc hg
      have t0 : wu.cell? ⟨b, 0, none⟩ = some (.int .i64 i) := HT.out.cell 0 _ rfl
      have tf0 := HT.out.frozen 0
      have t1 : wu.cell? ⟨b, 1, none⟩ = some (.int .i64 s) := HT.out.cell 1 _ rfl
      have tf1 := HT.out.frozen 1
      have t2 : wu.cell? ⟨b, 2, none⟩ = some (.int .i64 x) := HT.out.cell 2 _ rfl
      have tf2 := HT.out.frozen 2
      have t3 : wu.cell? ⟨b, 3, none⟩ = some (.int .i64 y) := HT.out.cell 3 _ rfl
      have tf3 := HT.out.frozen 3
      have t4 : wu.cell? ⟨b, 4, none⟩ = some (.int .i64 c4) := HT.out.cell 4 _ rfl
      have tf4 := HT.out.frozen 4
      have t5 : wu.cell? ⟨b, 5, none⟩ = some (.int .i64 c5) := HT.out.cell 5 _ rfl
      have tf5 := HT.out.frozen 5
      go_upto_region 19 with fail
      clear t0 tf0 t1 tf1 t2 tf2 t3 tf3 t4 tf4 t5 tf5
      have HT := Lib.hid (HT.out.set 5 (.int .i64 u))
      have HZ := Lib.hid (HZ.out.other (Nat.ne_of_lt hzt) 5 (.int .i64 u))
      have HC := Lib.hid (Cur.set HC.out htp (i := 5) (v := .int .i64 u))
      have HG := Lib.hid (grown_put HG.out (Nat.le_of_lt hzt) (i := 5) (v := .int .i64 u))
      generalize wu.setCell ⟨b, 5, none⟩ (.int .i64 u) = wv at *
      have z0 : wv.cell? ⟨w.heap.size, 0, none⟩ = some (.int .i64 0) := HZ.out.cell 0 _ rfl
      have zf0 := HZ.out.frozen 0
      have z1 : wv.cell? ⟨w.heap.size, 1, none⟩ = some (.int .i64 0) := HZ.out.cell 1 _ rfl
      have zf1 := HZ.out.frozen 1
      have z2 : wv.cell? ⟨w.heap.size, 2, none⟩ = some (.int .i64 0) := HZ.out.cell 2 _ rfl
      have zf2 := HZ.out.frozen 2
      have z3 : wv.cell? ⟨w.heap.size, 3, none⟩ = some (.int .i64 0) := HZ.out.cell 3 _ rfl
      have zf3 := HZ.out.frozen 3
      have z4 : wv.cell? ⟨w.heap.size, 4, none⟩ = some (.int .i64 0) := HZ.out.cell 4 _ rfl
      have zf4 := HZ.out.frozen 4
      have z5 : wv.cell? ⟨w.heap.size, 5, none⟩ = some (.int .i64 0) := HZ.out.cell 5 _ rfl
      have zf5 := HZ.out.frozen 5
      have t0 : wv.cell? ⟨b, 0, none⟩ = some (.int .i64 i) := HT.out.cell 0 _ rfl
      have tf0 := HT.out.frozen 0
      have t1 : wv.cell? ⟨b, 1, none⟩ = some (.int .i64 s) := HT.out.cell 1 _ rfl
      have tf1 := HT.out.frozen 1
      have t2 : wv.cell? ⟨b, 2, none⟩ = some (.int .i64 x) := HT.out.cell 2 _ rfl
      have tf2 := HT.out.frozen 2
      have t3 : wv.cell? ⟨b, 3, none⟩ = some (.int .i64 y) := HT.out.cell 3 _ rfl
      have tf3 := HT.out.frozen 3
      have t4 : wv.cell? ⟨b, 4, none⟩ = some (.int .i64 c4) := HT.out.cell 4 _ rfl
      have tf4 := HT.out.frozen 4
      have t5 : wv.cell? ⟨b, 5, none⟩ = some (.int .i64 u) := HT.out.cell 5 _ rfl
      have tf5 := HT.out.frozen 5
      have HE := Lib.hid ((((((HZ.out.set 0 (.int .i64 i)).set 1 (.int .i64 s)).set 2 (.int .i64 x)).set 3 (.int .i64 y)).set 4 (.int .i64 c4)).set 5 (.int .i64 u))
      have HCe := Lib.hid (Cur.set (Cur.set (Cur.set (Cur.set (Cur.set (Cur.set HC.out hzp (i := 0) (v := .int .i64 i)) hzp (i := 1) (v := .int .i64 s)) hzp (i := 2) (v := .int .i64 x)) hzp (i := 3) (v := .int .i64 y)) hzp (i := 4) (v := .int .i64 c4)) hzp (i := 5) (v := .int .i64 u))
      have HGe := Lib.hid (grown_put (grown_put (grown_put (grown_put (grown_put (grown_put HG.out (Nat.le_refl _) (i := 0) (v := .int .i64 i)) (Nat.le_refl _) (i := 1) (v := .int .i64 s)) (Nat.le_refl _) (i := 2) (v := .int .i64 x)) (Nat.le_refl _) (i := 3) (v := .int .i64 y)) (Nat.le_refl _) (i := 4) (v := .int .i64 c4)) (Nat.le_refl _) (i := 5) (v := .int .i64 u))
      clear HT HZ HC HG
      go_wp2_with fail
      have hl := HE.out.load Tryz.underlying25 rfl (by kernel_rfl)
      refine bodyPost_ret (v := .agg #[.int .i64 i, .int .i64 s, .int .i64 x, .int .i64 y, .int .i64 c4, .int .i64 u]) ?_ rfl ⟨_, _, _, _, _, _, rfl, HCe.out.more (by omega), HGe.out⟩
      rw [ats.results_cell1 rfl]
      simp [asAddr, Result.andThen, hl]
    have d1 : (k == 1) = false := by simpa using h1
    by_cases h2 : k = 2
    · subst h2
      go_wp2_with fail
      refine (among_new (-1) 9900 p _ 3 [-1, 9900, 9899] _ wk HC.out (by omega) (by omega) (by omega) rfl rfl (by decide)).mono ?_
      rintro e wu ⟨u, rfl, u0, u1, hc, hg⟩
      have HT := Lib.hid (HT.out.grown hg (Nat.ne_of_gt htp))
      have HZ := Lib.hid (HZ.out.grown hg (Nat.ne_of_gt hzp))
      have HC := Lib.hid hc
      have HG := Lib.hid (grown_trans HG.out hg)
      clear hc hg
      have t0 : wu.cell? ⟨b, 0, none⟩ = some (.int .i64 i) := HT.out.cell 0 _ rfl
      have tf0 := HT.out.frozen 0
      have t1 : wu.cell? ⟨b, 1, none⟩ = some (.int .i64 s) := HT.out.cell 1 _ rfl
      have tf1 := HT.out.frozen 1
      have t2 : wu.cell? ⟨b, 2, none⟩ = some (.int .i64 x) := HT.out.cell 2 _ rfl
      have tf2 := HT.out.frozen 2
      have t3 : wu.cell? ⟨b, 3, none⟩ = some (.int .i64 y) := HT.out.cell 3 _ rfl
      have tf3 := HT.out.frozen 3
      have t4 : wu.cell? ⟨b, 4, none⟩ = some (.int .i64 c4) := HT.out.cell 4 _ rfl
      have tf4 := HT.out.frozen 4
      have t5 : wu.cell? ⟨b, 5, none⟩ = some (.int .i64 c5) := HT.out.cell 5 _ rfl
      have tf5 := HT.out.frozen 5
      go_upto_region 19 with fail
      clear t0 tf0 t1 tf1 t2 tf2 t3 tf3 t4 tf4 t5 tf5
      have HT := Lib.hid (HT.out.set 2 (.int .i64 u))
      have HZ := Lib.hid (HZ.out.other (Nat.ne_of_lt hzt) 2 (.int .i64 u))
      have HC := Lib.hid (Cur.set HC.out htp (i := 2) (v := .int .i64 u))
      have HG := Lib.hid (grown_put HG.out (Nat.le_of_lt hzt) (i := 2) (v := .int .i64 u))
      generalize wu.setCell ⟨b, 2, none⟩ (.int .i64 u) = wv at *
      have z0 : wv.cell? ⟨w.heap.size, 0, none⟩ = some (.int .i64 0) := HZ.out.cell 0 _ rfl
      have zf0 := HZ.out.frozen 0
      have z1 : wv.cell? ⟨w.heap.size, 1, none⟩ = some (.int .i64 0) := HZ.out.cell 1 _ rfl
      have zf1 := HZ.out.frozen 1
      have z2 : wv.cell? ⟨w.heap.size, 2, none⟩ = some (.int .i64 0) := HZ.out.cell 2 _ rfl
      have zf2 := HZ.out.frozen 2
      have z3 : wv.cell? ⟨w.heap.size, 3, none⟩ = some (.int .i64 0) := HZ.out.cell 3 _ rfl
      have zf3 := HZ.out.frozen 3
      have z4 : wv.cell? ⟨w.heap.size, 4, none⟩ = some (.int .i64 0) := HZ.out.cell 4 _ rfl
      have zf4 := HZ.out.frozen 4
      have z5 : wv.cell? ⟨w.heap.size, 5, none⟩ = some (.int .i64 0) := HZ.out.cell 5 _ rfl
      have zf5 := HZ.out.frozen 5
      have t0 : wv.cell? ⟨b, 0, none⟩ = some (.int .i64 i) := HT.out.cell 0 _ rfl
      have tf0 := HT.out.frozen 0
      have t1 : wv.cell? ⟨b, 1, none⟩ = some (.int .i64 s) := HT.out.cell 1 _ rfl
      have tf1 := HT.out.frozen 1
      have t2 : wv.cell? ⟨b, 2, none⟩ = some (.int .i64 u) := HT.out.cell 2 _ rfl
      have tf2 := HT.out.frozen 2
      have t3 : wv.cell? ⟨b, 3, none⟩ = some (.int .i64 y) := HT.out.cell 3 _ rfl
      have tf3 := HT.out.frozen 3
      have t4 : wv.cell? ⟨b, 4, none⟩ = some (.int .i64 c4) := HT.out.cell 4 _ rfl
      have tf4 := HT.out.frozen 4
      have t5 : wv.cell? ⟨b, 5, none⟩ = some (.int .i64 c5) := HT.out.cell 5 _ rfl
      have tf5 := HT.out.frozen 5
      have HE := Lib.hid ((((((HZ.out.set 0 (.int .i64 i)).set 1 (.int .i64 s)).set 2 (.int .i64 u)).set 3 (.int .i64 y)).set 4 (.int .i64 c4)).set 5 (.int .i64 c5))
      have HCe := Lib.hid (Cur.set (Cur.set (Cur.set (Cur.set (Cur.set (Cur.set HC.out hzp (i := 0) (v := .int .i64 i)) hzp (i := 1) (v := .int .i64 s)) hzp (i := 2) (v := .int .i64 u)) hzp (i := 3) (v := .int .i64 y)) hzp (i := 4) (v := .int .i64 c4)) hzp (i := 5) (v := .int .i64 c5))
      have HGe := Lib.hid (grown_put (grown_put (grown_put (grown_put (grown_put (grown_put HG.out (Nat.le_refl _) (i := 0) (v := .int .i64 i)) (Nat.le_refl _) (i := 1) (v := .int .i64 s)) (Nat.le_refl _) (i := 2) (v := .int .i64 u)) (Nat.le_refl _) (i := 3) (v := .int .i64 y)) (Nat.le_refl _) (i := 4) (v := .int .i64 c4)) (Nat.le_refl _) (i := 5) (v := .int .i64 c5))
      clear HT HZ HC HG
      go_wp2_with fail
      have hl := HE.out.load Tryz.underlying25 rfl (by kernel_rfl)
      refine bodyPost_ret (v := .agg #[.int .i64 i, .int .i64 s, .int .i64 u, .int .i64 y, .int .i64 c4, .int .i64 c5]) ?_ rfl ⟨_, _, _, _, _, _, rfl, HCe.out.more (by omega), HGe.out⟩
      rw [ats.results_cell1 rfl]
      simp [asAddr, Result.andThen, hl]
    have d2 : (k == 2) = false := by simpa using h2
    by_cases h3 : k = 3
    · subst h3
      go_wp2_with fail
      refine (among_new (0) 4 p _ 2 [0, 4] _ wk HC.out (by omega) (by omega) (by omega) rfl rfl (by decide)).mono ?_
      rintro e wu ⟨u, rfl, u0, u1, hc, hg⟩
      have HT := Lib.hid (HT.out.grown hg (Nat.ne_of_gt htp))
      have HZ := Lib.hid (HZ.out.grown hg (Nat.ne_of_gt hzp))
      have HC := Lib.hid hc
      have HG := Lib.hid (grown_trans HG.out hg)
      clear hc hg
      have t0 : wu.cell? ⟨b, 0, none⟩ = some (.int .i64 i) := HT.out.cell 0 _ rfl
      have tf0 := HT.out.frozen 0
      have t1 : wu.cell? ⟨b, 1, none⟩ = some (.int .i64 s) := HT.out.cell 1 _ rfl
      have tf1 := HT.out.frozen 1
      have t2 : wu.cell? ⟨b, 2, none⟩ = some (.int .i64 x) := HT.out.cell 2 _ rfl
      have tf2 := HT.out.frozen 2
      have t3 : wu.cell? ⟨b, 3, none⟩ = some (.int .i64 y) := HT.out.cell 3 _ rfl
      have tf3 := HT.out.frozen 3
      have t4 : wu.cell? ⟨b, 4, none⟩ = some (.int .i64 c4) := HT.out.cell 4 _ rfl
      have tf4 := HT.out.frozen 4
      have t5 : wu.cell? ⟨b, 5, none⟩ = some (.int .i64 c5) := HT.out.cell 5 _ rfl
      have tf5 := HT.out.frozen 5
      go_upto_region 19 with fail
      clear t0 tf0 t1 tf1 t2 tf2 t3 tf3 t4 tf4 t5 tf5
      have HT := Lib.hid (HT.out.set 1 (.int .i64 u))
      have HZ := Lib.hid (HZ.out.other (Nat.ne_of_lt hzt) 1 (.int .i64 u))
      have HC := Lib.hid (Cur.set HC.out htp (i := 1) (v := .int .i64 u))
      have HG := Lib.hid (grown_put HG.out (Nat.le_of_lt hzt) (i := 1) (v := .int .i64 u))
      generalize wu.setCell ⟨b, 1, none⟩ (.int .i64 u) = wv at *
      have z0 : wv.cell? ⟨w.heap.size, 0, none⟩ = some (.int .i64 0) := HZ.out.cell 0 _ rfl
      have zf0 := HZ.out.frozen 0
      have z1 : wv.cell? ⟨w.heap.size, 1, none⟩ = some (.int .i64 0) := HZ.out.cell 1 _ rfl
      have zf1 := HZ.out.frozen 1
      have z2 : wv.cell? ⟨w.heap.size, 2, none⟩ = some (.int .i64 0) := HZ.out.cell 2 _ rfl
      have zf2 := HZ.out.frozen 2
      have z3 : wv.cell? ⟨w.heap.size, 3, none⟩ = some (.int .i64 0) := HZ.out.cell 3 _ rfl
      have zf3 := HZ.out.frozen 3
      have z4 : wv.cell? ⟨w.heap.size, 4, none⟩ = some (.int .i64 0) := HZ.out.cell 4 _ rfl
      have zf4 := HZ.out.frozen 4
      have z5 : wv.cell? ⟨w.heap.size, 5, none⟩ = some (.int .i64 0) := HZ.out.cell 5 _ rfl
      have zf5 := HZ.out.frozen 5
      have t0 : wv.cell? ⟨b, 0, none⟩ = some (.int .i64 i) := HT.out.cell 0 _ rfl
      have tf0 := HT.out.frozen 0
      have t1 : wv.cell? ⟨b, 1, none⟩ = some (.int .i64 u) := HT.out.cell 1 _ rfl
      have tf1 := HT.out.frozen 1
      have t2 : wv.cell? ⟨b, 2, none⟩ = some (.int .i64 x) := HT.out.cell 2 _ rfl
      have tf2 := HT.out.frozen 2
      have t3 : wv.cell? ⟨b, 3, none⟩ = some (.int .i64 y) := HT.out.cell 3 _ rfl
      have tf3 := HT.out.frozen 3
      have t4 : wv.cell? ⟨b, 4, none⟩ = some (.int .i64 c4) := HT.out.cell 4 _ rfl
      have tf4 := HT.out.frozen 4
      have t5 : wv.cell? ⟨b, 5, none⟩ = some (.int .i64 c5) := HT.out.cell 5 _ rfl
      have tf5 := HT.out.frozen 5
      have HE := Lib.hid ((((((HZ.out.set 0 (.int .i64 i)).set 1 (.int .i64 u)).set 2 (.int .i64 x)).set 3 (.int .i64 y)).set 4 (.int .i64 c4)).set 5 (.int .i64 c5))
      have HCe := Lib.hid (Cur.set (Cur.set (Cur.set (Cur.set (Cur.set (Cur.set HC.out hzp (i := 0) (v := .int .i64 i)) hzp (i := 1) (v := .int .i64 u)) hzp (i := 2) (v := .int .i64 x)) hzp (i := 3) (v := .int .i64 y)) hzp (i := 4) (v := .int .i64 c4)) hzp (i := 5) (v := .int .i64 c5))
      have HGe := Lib.hid (grown_put (grown_put (grown_put (grown_put (grown_put (grown_put HG.out (Nat.le_refl _) (i := 0) (v := .int .i64 i)) (Nat.le_refl _) (i := 1) (v := .int .i64 u)) (Nat.le_refl _) (i := 2) (v := .int .i64 x)) (Nat.le_refl _) (i := 3) (v := .int .i64 y)) (Nat.le_refl _) (i := 4) (v := .int .i64 c4)) (Nat.le_refl _) (i := 5) (v := .int .i64 c5))
      clear HT HZ HC HG
      go_wp2_with fail
      have hl := HE.out.load Tryz.underlying25 rfl (by kernel_rfl)
      refine bodyPost_ret (v := .agg #[.int .i64 i, .int .i64 u, .int .i64 x, .int .i64 y, .int .i64 c4, .int .i64 c5]) ?_ rfl ⟨_, _, _, _, _, _, rfl, HCe.out.more (by omega), HGe.out⟩
      rw [ats.results_cell1 rfl]
      simp [asAddr, Result.andThen, hl]
    have d3 : (k == 3) = false := by simpa using h3
    have z0 : wk.cell? ⟨w.heap.size, 0, none⟩ = some (.int .i64 0) := HZ.out.cell 0 _ rfl
    have zf0 := HZ.out.frozen 0
    have z1 : wk.cell? ⟨w.heap.size, 1, none⟩ = some (.int .i64 0) := HZ.out.cell 1 _ rfl
    have zf1 := HZ.out.frozen 1
    have z2 : wk.cell? ⟨w.heap.size, 2, none⟩ = some (.int .i64 0) := HZ.out.cell 2 _ rfl
    have zf2 := HZ.out.frozen 2
    have z3 : wk.cell? ⟨w.heap.size, 3, none⟩ = some (.int .i64 0) := HZ.out.cell 3 _ rfl
    have zf3 := HZ.out.frozen 3
    have z4 : wk.cell? ⟨w.heap.size, 4, none⟩ = some (.int .i64 0) := HZ.out.cell 4 _ rfl
    have zf4 := HZ.out.frozen 4
    have z5 : wk.cell? ⟨w.heap.size, 5, none⟩ = some (.int .i64 0) := HZ.out.cell 5 _ rfl
    have zf5 := HZ.out.frozen 5
    have t0 : wk.cell? ⟨b, 0, none⟩ = some (.int .i64 i) := HT.out.cell 0 _ rfl
    have tf0 := HT.out.frozen 0
    have t1 : wk.cell? ⟨b, 1, none⟩ = some (.int .i64 s) := HT.out.cell 1 _ rfl
    have tf1 := HT.out.frozen 1
    have t2 : wk.cell? ⟨b, 2, none⟩ = some (.int .i64 x) := HT.out.cell 2 _ rfl
    have tf2 := HT.out.frozen 2
    have t3 : wk.cell? ⟨b, 3, none⟩ = some (.int .i64 y) := HT.out.cell 3 _ rfl
    have tf3 := HT.out.frozen 3
    have t4 : wk.cell? ⟨b, 4, none⟩ = some (.int .i64 c4) := HT.out.cell 4 _ rfl
    have tf4 := HT.out.frozen 4
    have t5 : wk.cell? ⟨b, 5, none⟩ = some (.int .i64 c5) := HT.out.cell 5 _ rfl
    have tf5 := HT.out.frozen 5
    have HE := Lib.hid ((((((HZ.out.set 0 (.int .i64 i)).set 1 (.int .i64 s)).set 2 (.int .i64 x)).set 3 (.int .i64 y)).set 4 (.int .i64 c4)).set 5 (.int .i64 c5))
    have HCe := Lib.hid (Cur.set (Cur.set (Cur.set (Cur.set (Cur.set (Cur.set HC.out hzp (i := 0) (v := .int .i64 i)) hzp (i := 1) (v := .int .i64 s)) hzp (i := 2) (v := .int .i64 x)) hzp (i := 3) (v := .int .i64 y)) hzp (i := 4) (v := .int .i64 c4)) hzp (i := 5) (v := .int .i64 c5))
    have HGe := Lib.hid (grown_put (grown_put (grown_put (grown_put (grown_put (grown_put HG.out (Nat.le_refl _) (i := 0) (v := .int .i64 i)) (Nat.le_refl _) (i := 1) (v := .int .i64 s)) (Nat.le_refl _) (i := 2) (v := .int .i64 x)) (Nat.le_refl _) (i := 3) (v := .int .i64 y)) (Nat.le_refl _) (i := 4) (v := .int .i64 c4)) (Nat.le_refl _) (i := 5) (v := .int .i64 c5))
    clear HT HZ HC HG
    go_wp2_with fail
    have hl := HE.out.load Tryz.underlying25 rfl (by kernel_rfl)
    refine bodyPost_ret (v := .agg #[.int .i64 i, .int .i64 s, .int .i64 x, .int .i64 y, .int .i64 c4, .int .i64 c5]) ?_ rfl ⟨_, _, _, _, _, _, rfl, HCe.out.more (by omega), HGe.out⟩
    rw [ats.results_cell1 rfl]
    simp [asAddr, Result.andThen, hl]

end Go.Proofs.YtfigjfckelichaaGreatDoor.draws14

/- spec's draw of a list of tracks. -/
namespace Go.Proofs.YtfigjfckelichaaGreatDoor.drawt14
open Go.RowKit Go.Proofs.YtfigjfckelichaaGreatDoor.cur Go.Proofs.YtfigjfckelichaaGreatDoor.atc Go.Proofs.YtfigjfckelichaaGreatDoor.ats Go.Proofs.YtfigjfckelichaaGreatDoor.ints Go.Proofs.YtfigjfckelichaaGreatDoor.lst Go.Proofs.YtfigjfckelichaaGreatDoor.code_ Go.Proofs.YtfigjfckelichaaGreatDoor.draws14 Go.Proofs.YtfigjfckelichaaGreatDoor.trk

theorem infoT : (Tryz.prog.info? 25).map (fun i => (i.zero, i.size, i.bytes)) = some (some (.agg #[.int .i64 0, .int .i64 0, .int .i64 0, .int .i64 0, .int .i64 0, .int .i64 0]), 6, 48) := by kernel_rfl
theorem six_cells (a b c d e f : Int) : ∀ u ∈ [Value.int .i64 a, .int .i64 b, .int .i64 c, .int .i64 d, .int .i64 e, .int .i64 f], u.oneCell' = true := by
  intro u hu
  simp at hu
  rcases hu with rfl | rfl | rfl | rfl | rfl | rfl <;> rfl
theorem grown_append {w wr w1 : World} {o : Obj} {p B e size n : Nat} {v : Value} {xs : List Value} (hg : w.grownBy wr (some p)) (h : wr.ownsRow B e size v n xs) (hB : w.heap.size ≤ B) (ha : (wr.alloc o).grownBy w1 v.ownBlock) : w.grownBy w1 (some p) :=
  ⟨ha.os.trans hg.os, ha.tape.trans hg.tape, ha.output.trans hg.output, Nat.le_trans hg.size (Nat.le_trans (by rw [World.size_alloc]; omega) ha.size), fun k hk hne => by
    have h1 := ha.block k (by have := hg.size; rw [World.size_alloc]; omega) (fun e => by have := own_.row_ge h k e.symm; omega)
    have h2 : (wr.alloc o).heap[k]? = wr.heap[k]? := Below.heap_alloc wr o k (by have := hg.size; omega)
    exact h1.trans (h2.trans (hg.block k hk hne))⟩
theorem cur_append {wr w1 : World} {o : Obj} {p m B e size n : Nat} {v : Value} {xs : List Value} (hc : Cur wr p m) (h : wr.ownsRow B e size v n xs) (hB : p < B) (hs : B ≤ wr.heap.size) (ha : (wr.alloc o).grownBy w1 v.ownBlock) : Cur w1 p m :=
  hc.keep (((Below.refl (p + 1) wr).alloc (by omega) o).grown ha (by rw [World.size_alloc]; omega) (fun k e => by have := own_.row_ge h k e; omega))
theorem own_grow6 {w : World} {B e n : Nat} {v : Value} {xs : List Int} {x0 x1 x2 x3 x4 x5 : Int} (h : w.ownsRow B e 6 v (n + 1) (cellsI xs ++ [.int .i64 x0, .int .i64 x1, .int .i64 x2, .int .i64 x3, .int .i64 x4, .int .i64 x5])) : w.ownsRow B e 6 v (n + 1) (cellsI (xs ++ [x0, x1, x2, x3, x4, x5])) := by
  unfold cellsI at h ⊢
  rw [List.map_append]
  exact h
theorem own_len6 {w : World} {B e n : Nat} {v : Value} {xs : List Int} (h : w.ownsRow B e 6 v n (cellsI xs)) : xs.length = n * 6 := by have := h.1; unfold cellsI at this; simpa using this
def TracksQ (p m : Nat) (w : World) (e : Ending) (w' : World) : Prop := ∃ v n zs, e = .returned v ∧ w'.ownsRow w.heap.size 25 6 v n (cellsI zs) ∧ n ≤ 9 ∧ Cur w' p m ∧ w.grownBy w' (some p)

set_option maxRecDepth 100000 in
set_option maxHeartbeats 16000000 in
theorem tracks (p m : Nat) (w : World) (h : Cur w p m) (hm : m ≤ 100000) :
    Calls Tryz.prog 41 #[.pointer (some ⟨p, 0, none⟩)] w (TracksQ p (m + 400) w) := by
  have hp := h.lt
  obtain ⟨i0, hi, hz0, hz1, hz2⟩ := info_parts infoT
  have O0 := Lib.hid (own_emptyZ w 25 6)
  have C0 := Lib.hid (h.keep ((Below.refl (p + 1) w).alloc (by omega) (.cells #[] 25)))
  have G0 := Lib.hid (show w.grownBy (w.alloc (.cells #[] 25)) (some p) from grown_alloc _ _)
  clear h
  go_enter Tryz.func41, Tryz.ntmps41
  go_upto_region 2 with fail
  generalize w.alloc (.cells #[] 25) = W at *
  go_wp2_with fail
  refine (pick p _ 6 W C0.out (by omega) (by omega) (by omega)).mono ?_
  rintro e w1 ⟨r, rfl, r0, r1, hcN, hgN⟩
  have O2 := Lib.hid (own_kept O0.out hgN (fun g e => by cases e; exact hp))
  have C2 := Lib.hid hcN
  have G2 := Lib.hid (grown_trans G0.out hgN)
  clear hcN hgN O0 C0 G0
  obtain ⟨q0, rfl⟩ := Int.eq_ofNat_of_zero_le r0
  go_wp2_with fail
  go_loopw [3, 4, 5, 6] (fun v av nv _ wr => ∃ (t k : Nat) (a : Int) (zs : List Int), t + k ≤ 5 ∧ nv = .int .i64 (t : Int) ∧ av = .int .i64 a ∧ 0 ≤ a ∧ a + 3 * t ≤ 15 ∧ wr.ownsRow w.heap.size 25 6 v k (cellsI zs) ∧ Cur wr p (m + 220 - 40 * t) ∧ w.grownBy wr (some p)) (fun _ _ nv _ _ => (intOf nv).toNat)
  case atStart => exact ⟨q0, 0, 0, [], by omega, rfl, rfl, by omega, by omega, O2.out, C2.out.more (by omega), G2.out⟩
  case round =>
    obtain ⟨t, k, a, zs, ht, rfl, rfl, a0, a1, ho, hc, hg⟩ := hrel
    clear O2 C2 G2
    have O3 := Lib.hid ho
    have C3 := Lib.hid hc
    have G3 := Lib.hid hg
    clear ho hc hg
    by_cases hlt : 0 < t
    · have hlt2 : (0 : Int) < (t : Int) := by omega
      have e4 : IntKind.i64.wrap ((t : Int) - 1) = (t : Int) - 1 := IntWalk.i64_in _ (by omega)
      have e1 : IntKind.i64.wrap (a + 1) = a + 1 := IntWalk.i64_in _ (by omega)
      go_wp2_with fail
      refine (track p _ wr C3.out (by omega)).mono ?_
      rintro e w4 ⟨x0, x1, x2, x3, x4, x5, rfl, hcN, hgN⟩
      have O4 := Lib.hid (own_kept O3.out hgN (fun g e => by cases e; exact hp))
      have G4 := Lib.hid (grown_trans G3.out hgN)
      have C5 := Lib.hid (Cur.alloc hcN (.cells #[.int .i64 x0, .int .i64 x1, .int .i64 x2, .int .i64 x3, .int .i64 x4, .int .i64 x5] 25))
      have hbp : p < w4.heap.size := hcN.lt
      have hwb : w.heap.size ≤ w4.heap.size := G4.out.size
      have HOB := Lib.hid (fun g (e : Value.ownBlock _ = some g) => own_row_lt O4.out g e)
      have O5 := Lib.hid (O4.out.alloc (.cells #[.int .i64 x0, .int .i64 x1, .int .i64 x2, .int .i64 x3, .int .i64 x4, .int .i64 x5] 25))
      have G5 := Lib.hid (grown_trans G4.out (grown_alloc (.cells #[.int .i64 x0, .int .i64 x1, .int .i64 x2, .int .i64 x3, .int .i64 x4, .int .i64 x5] 25) (some p)))
      have BX := Lib.hid (Blk.new 25 #[.int .i64 x0, .int .i64 x1, .int .i64 x2, .int .i64 x3, .int .i64 x4, .int .i64 x5] w4)
      clear hcN hgN O3 C3 G3 O4 G4
      go_upto_region 7 with fail
      generalize w4.alloc (.cells #[.int .i64 x0, .int .i64 x1, .int .i64 x2, .int .i64 x3, .int .i64 x4, .int .i64 x5] 25) = w5 at *
      generalize w4.heap.size = bx at *
      go_wp2_with fail
      refine (pick p _ 3 w5 C5.out (by omega) (by omega) (by omega)).mono ?_
      rintro e w6 ⟨r, rfl, r0, r1, hcN, hgN⟩
      have O6 := own_kept O5.out hgN (fun g e => by cases e; exact hp)
      have BX6 := BX.out.grown hgN (Nat.ne_of_gt hbp)
      have e2 : IntKind.i64.wrap (a + 1 + r) = a + 1 + r := IntWalk.i64_in _ (by omega)
      have O7 := Lib.hid (own_kept_at O6 (lst.grown_set (lst.grown_refl w6 (some bx)) 0 (.int .i64 (a + 1 + r))) (fun g e1 e2 => by injection e2 with e2; have := HOB.out g e1; omega))
      have C7 := Lib.hid (Cur.set hcN hbp (i := 0) (v := .int .i64 (a + 1 + r)))
      have G7 := Lib.hid (grown_put (grown_trans G5.out hgN) hwb (i := 0) (v := .int .i64 (a + 1 + r)))
      have B7 := Lib.hid (BX6.set 0 (.int .i64 (a + 1 + r)))
      have BX := Lib.hid BX6
      clear hcN hgN O6 BX6 O5 C5 G5
      have b0 : w6.cell? ⟨bx, 0, none⟩ = some (.int .i64 x0) := BX.out.cell 0 _ rfl
      have bf0 := BX.out.frozen 0
      have b1 : w6.cell? ⟨bx, 1, none⟩ = some (.int .i64 x1) := BX.out.cell 1 _ rfl
      have bf1 := BX.out.frozen 1
      have b2 : w6.cell? ⟨bx, 2, none⟩ = some (.int .i64 x2) := BX.out.cell 2 _ rfl
      have bf2 := BX.out.frozen 2
      have b3 : w6.cell? ⟨bx, 3, none⟩ = some (.int .i64 x3) := BX.out.cell 3 _ rfl
      have bf3 := BX.out.frozen 3
      have b4 : w6.cell? ⟨bx, 4, none⟩ = some (.int .i64 x4) := BX.out.cell 4 _ rfl
      have bf4 := BX.out.frozen 4
      have b5 : w6.cell? ⟨bx, 5, none⟩ = some (.int .i64 x5) := BX.out.cell 5 _ rfl
      have bf5 := BX.out.frozen 5
      go_upto_region 9 with fail
      clear b0 bf0 b1 bf1 b2 bf2 b3 bf3 b4 bf4 b5 bf5
      generalize w6.setCell ⟨bx, 0, none⟩ (.int .i64 (a + 1 + r)) = w7 at *
      have BX := Lib.hid (show Blk 25 #[.int .i64 (a + 1 + r), .int .i64 x1, .int .i64 x2, .int .i64 x3, .int .i64 x4, .int .i64 x5] w7 bx from B7.out)
      clear B7
      have b0 : w7.cell? ⟨bx, 0, none⟩ = some (.int .i64 (a + 1 + r)) := BX.out.cell 0 _ rfl
      have b1 : w7.cell? ⟨bx, 1, none⟩ = some (.int .i64 x1) := BX.out.cell 1 _ rfl
      have b2 : w7.cell? ⟨bx, 2, none⟩ = some (.int .i64 x2) := BX.out.cell 2 _ rfl
      have b3 : w7.cell? ⟨bx, 3, none⟩ = some (.int .i64 x3) := BX.out.cell 3 _ rfl
      have b4 : w7.cell? ⟨bx, 4, none⟩ = some (.int .i64 x4) := BX.out.cell 4 _ rfl
      have b5 : w7.cell? ⟨bx, 5, none⟩ = some (.int .i64 x5) := BX.out.cell 5 _ rfl
      go_wp2_with fail
      refine (trks.good14 (a + 1 + r) x1 x2 x3 x4 x5 w7).mono ?_
      rintro e w8 ⟨rfl, hb⟩
      clear b0 b1 b2 b3 b4 b5
      have O8 := Lib.hid (own_.own_below O7.out hb)
      have C8 := Lib.hid (Cur.below C7.out hb)
      have G8 := Lib.hid (grown_trans G7.out (grown_below hb))
      have BX := Lib.hid (BX.out.below hb)
      clear hb O7 C7 G7
      generalize tkB (a + 1 + r) x1 x2 x3 x4 x5 = bb at *
      cases bb
      · go_wp2_with fail
        refine (one p _ 12 w8 C8.out (by omega) (by omega) (by omega)).mono ?_
        rintro e wa ⟨b, rfl, hcN, hgN⟩
        have OA := Lib.hid (own_kept O8.out hgN (fun g e => by cases e; exact hp))
        have CA := Lib.hid hcN
        have GA := Lib.hid (grown_trans G8.out hgN)
        have BX := Lib.hid (BX.out.grown hgN (Nat.ne_of_gt hbp))
        clear hcN hgN O8 C8 G8
        cases b
        · go_wp2_with fail
          go_roundw
          case rel => exact ⟨t - 1, k, a + 1 + r, zs, by omega, (by show Value.int .i64 _ = Value.int .i64 _; congr 1; omega), rfl, by omega, by omega, OA.out, CA.out.more (by omega), GA.out⟩
          case measure => simp [intOf]; omega
        · have HSZ := Lib.hid GA.out.size
          have b0 : wa.cell? ⟨bx, 0, none⟩ = some (.int .i64 (a + 1 + r)) := BX.out.cell 0 _ rfl
          have b1 : wa.cell? ⟨bx, 1, none⟩ = some (.int .i64 x1) := BX.out.cell 1 _ rfl
          have b2 : wa.cell? ⟨bx, 2, none⟩ = some (.int .i64 x2) := BX.out.cell 2 _ rfl
          have b3 : wa.cell? ⟨bx, 3, none⟩ = some (.int .i64 x3) := BX.out.cell 3 _ rfl
          have b4 : wa.cell? ⟨bx, 4, none⟩ = some (.int .i64 x4) := BX.out.cell 4 _ rfl
          have b5 : wa.cell? ⟨bx, 5, none⟩ = some (.int .i64 x5) := BX.out.cell 5 _ rfl
          go_wp2_with (at_builtin; refine wpList_append_own _ rfl (.tmp 30) (.tmp 32) 33 rfl w.heap.size 25 i0 (.agg #[.int .i64 0, .int .i64 0, .int .i64 0, .int .i64 0, .int .i64 0, .int .i64 0]) 6 48 Tryz.underlying33 hi hz0 hz1 hz2 rfl (by decide) _ k (cellsI zs) rfl (OA.out.alloc _) ⟨wa.heap.size, 0, none⟩ 1 1 [.int .i64 (a + 1 + r), .int .i64 x1, .int .i64 x2, .int .i64 x3, .int .i64 x4, .int .i64 x5] rfl rfl (cells_new _ _ #[.int .i64 (a + 1 + r), .int .i64 x1, .int .i64 x2, .int .i64 x3, .int .i64 x4, .int .i64 x5]) (six_cells _ _ _ _ _ _) (by unfold maxLen; omega) (by omega) (by rw [World.size_alloc]; have := HSZ.out; omega) ?_; intro v' w9 hown' hgrow hnil)
          have C9 := Lib.hid (cur_append CA.out OA.out hp HSZ.out hgrow)
          have G9 := Lib.hid (grown_append GA.out OA.out (Nat.le_refl _) hgrow)
          have O9 := Lib.hid (own_grow6 hown')
          clear hown' hgrow hnil OA CA GA HSZ
          go_wp2_with fail
          go_roundw
          case rel => exact ⟨t - 1, k + 1, a + 1 + r, _, by omega, (by show Value.int .i64 _ = Value.int .i64 _; congr 1; omega), rfl, by omega, by omega, O9.out, C9.out.more (by omega), G9.out⟩
          case measure => simp [intOf]; omega
      · have HSZ := Lib.hid G8.out.size
        have b0 : w8.cell? ⟨bx, 0, none⟩ = some (.int .i64 (a + 1 + r)) := BX.out.cell 0 _ rfl
        have b1 : w8.cell? ⟨bx, 1, none⟩ = some (.int .i64 x1) := BX.out.cell 1 _ rfl
        have b2 : w8.cell? ⟨bx, 2, none⟩ = some (.int .i64 x2) := BX.out.cell 2 _ rfl
        have b3 : w8.cell? ⟨bx, 3, none⟩ = some (.int .i64 x3) := BX.out.cell 3 _ rfl
        have b4 : w8.cell? ⟨bx, 4, none⟩ = some (.int .i64 x4) := BX.out.cell 4 _ rfl
        have b5 : w8.cell? ⟨bx, 5, none⟩ = some (.int .i64 x5) := BX.out.cell 5 _ rfl
        go_wp2_with (at_builtin; refine wpList_append_own _ rfl (.tmp 30) (.tmp 32) 33 rfl w.heap.size 25 i0 (.agg #[.int .i64 0, .int .i64 0, .int .i64 0, .int .i64 0, .int .i64 0, .int .i64 0]) 6 48 Tryz.underlying33 hi hz0 hz1 hz2 rfl (by decide) _ k (cellsI zs) rfl (O8.out.alloc _) ⟨w8.heap.size, 0, none⟩ 1 1 [.int .i64 (a + 1 + r), .int .i64 x1, .int .i64 x2, .int .i64 x3, .int .i64 x4, .int .i64 x5] rfl rfl (cells_new _ _ #[.int .i64 (a + 1 + r), .int .i64 x1, .int .i64 x2, .int .i64 x3, .int .i64 x4, .int .i64 x5]) (six_cells _ _ _ _ _ _) (by unfold maxLen; omega) (by omega) (by rw [World.size_alloc]; have := HSZ.out; omega) ?_; intro v' w9 hown' hgrow hnil)
        have C9 := Lib.hid (cur_append C8.out O8.out hp HSZ.out hgrow)
        have G9 := Lib.hid (grown_append G8.out O8.out (Nat.le_refl _) hgrow)
        have O9 := Lib.hid (own_grow6 hown')
        clear hown' hgrow hnil O8 C8 G8 HSZ
        go_wp2_with fail
        go_roundw
        case rel => exact ⟨t - 1, k + 1, a + 1 + r, _, by omega, (by show Value.int .i64 _ = Value.int .i64 _; congr 1; omega), rfl, by omega, by omega, O9.out, C9.out.more (by omega), G9.out⟩
        case measure => simp [intOf]; omega
    · obtain rfl : t = 0 := by omega
      go_wp2_with fail
      refine (pick p _ 24 wr C3.out (by omega) (by omega) (by omega)).mono ?_
      rintro e w4 ⟨i, rfl, i0', i1', hcN, hgN⟩
      have O4 := Lib.hid (own_kept O3.out hgN (fun g e => by cases e; exact hp))
      have C4 := Lib.hid hcN
      have G4 := Lib.hid (grown_trans G3.out hgN)
      clear hcN hgN O3 C3 G3
      by_cases h0 : i = 0
      · subst h0
        go_wp2_with fail
        refine (track p _ w4 C4.out (by omega)).mono ?_
        rintro e w5 ⟨x0, x1, x2, x3, x4, x5, rfl, hcN, hgN⟩
        have O5 := Lib.hid (own_kept O4.out hgN (fun g e => by cases e; exact hp))
        have C5 := Lib.hid hcN
        have G5 := Lib.hid (grown_trans G4.out hgN)
        have HSZ := Lib.hid G5.out.size
        clear hcN hgN O4 C4 G4
        go_wp2_with (at_builtin; refine wpList_append_own _ rfl (.tmp 38) (.tmp 41) 33 rfl w.heap.size 25 i0 (.agg #[.int .i64 0, .int .i64 0, .int .i64 0, .int .i64 0, .int .i64 0, .int .i64 0]) 6 48 Tryz.underlying33 hi hz0 hz1 hz2 rfl (by decide) _ k (cellsI zs) rfl (O5.out.alloc _) ⟨w5.heap.size, 0, none⟩ 1 1 [.int .i64 x0, .int .i64 x1, .int .i64 x2, .int .i64 x3, .int .i64 x4, .int .i64 x5] rfl rfl (cells_new _ _ #[.int .i64 x0, .int .i64 x1, .int .i64 x2, .int .i64 x3, .int .i64 x4, .int .i64 x5]) (six_cells _ _ _ _ _ _) (by unfold maxLen; omega) (by omega) (by rw [World.size_alloc]; have := HSZ.out; omega) ?_; intro v' w9 hown' hgrow hnil)
        have C9 := Lib.hid (cur_append C5.out O5.out hp HSZ.out hgrow)
        have G9 := Lib.hid (grown_append G5.out O5.out (Nat.le_refl _) hgrow)
        have O9 := Lib.hid (own_grow6 hown')
        clear hown' hgrow hnil O5 C5 G5 HSZ
        go_wp2_with fail
        go_ret
        exact ⟨_, k + 1, _, rfl, O9.out, by omega, C9.out.more (by omega), G9.out⟩
      have d0 : (i == 0) = false := by simpa using h0
      by_cases h1 : i = 1
      · subst h1
        obtain ⟨A4, c4, rfl⟩ := own_sliceZ O4.out
        go_wp2_with fail
        go_loopw [3, 7] (fun v nv wr => ∃ (l j : Nat) (A' : Option Addr) (c' : Nat) (ys : List Int), l ≤ 7 ∧ j ≤ 8 ∧ v = .slice A' l c' ∧ nv = .int .i64 (j : Int) ∧ wr.ownsRow w.heap.size 25 6 (.slice A' l c') l (cellsI ys) ∧ Cur wr p (m + 300 + 4 * j) ∧ w.grownBy wr (some p)) (fun _ nv _ => 8 - (intOf nv).toNat)
        case atStart => exact ⟨k, 0, A4, c4, zs, by omega, by omega, rfl, rfl, O4.out, C4.out.more (by omega), G4.out⟩
        case round =>
          obtain ⟨l, j, A', c', ys, hl7, hj8, rfl, rfl, ho, hc, hg⟩ := hrel
          clear O4 C4 G4
          go_wp2_with fail
          refine (pick p _ 2 wr hc (by omega) (by omega) (by omega)).mono ?_
          rintro e w7 ⟨r, rfl, r0, r1, hcN, hgN⟩
          have O7 := Lib.hid (own_kept ho hgN (fun g e => by cases e; exact hp))
          have C7 := Lib.hid hcN
          have G7 := Lib.hid (grown_trans hg hgN)
          have HSZ := Lib.hid G7.out.size
          have e5 : IntKind.i64.wrap (6 + r) = 6 + r := IntWalk.i64_in _ (by omega)
          have e6 : IntKind.i64.wrap ((j : Int) + 1) = ((j + 1 : Nat) : Int) := by rw [IntWalk.i64_in _ (by omega)]; omega
          have e7 : IntKind.i64.wrap (100 + (j : Int)) = 100 + (j : Int) := IntWalk.i64_in _ (by omega)
          clear ho hc hg hcN hgN
          by_cases hlt3 : (l : Int) < 6 + r
          · by_cases hj : (j : Int) < 8
            · go_wp2_with (at_builtin; refine wpList_append_own _ rfl (.tmp 57) (.tmp 61) 33 rfl w.heap.size 25 i0 (.agg #[.int .i64 0, .int .i64 0, .int .i64 0, .int .i64 0, .int .i64 0, .int .i64 0]) 6 48 Tryz.underlying33 hi hz0 hz1 hz2 rfl (by decide) _ l (cellsI ys) rfl (O7.out.alloc _) ⟨w7.heap.size, 0, none⟩ 1 1 [.int .i64 (100 + (j : Int)), .int .i64 1, .int .i64 0, .int .i64 0, .int .i64 1, .int .i64 0] rfl rfl (cells_new _ _ #[.int .i64 (100 + (j : Int)), .int .i64 1, .int .i64 0, .int .i64 0, .int .i64 1, .int .i64 0]) (six_cells _ _ _ _ _ _) (by unfold maxLen; omega) (by omega) (by rw [World.size_alloc]; have := HSZ.out; omega) ?_; intro v' w9 hown' hgrow hnil)
              have C9 := Lib.hid (cur_append C7.out O7.out hp HSZ.out hgrow)
              have G9 := Lib.hid (grown_append G7.out O7.out (Nat.le_refl _) hgrow)
              have O9 := Lib.hid (own_grow6 hown')
              clear hown' hgrow hnil O7 C7 G7 HSZ
              obtain ⟨A9, c9, rfl⟩ := own_sliceZ O9.out
              go_wp2_with fail
              go_roundw
              case rel => exact ⟨l + 1, j + 1, A9, c9, _, by omega, by omega, rfl, rfl, O9.out, C9.out.more (by omega), G9.out⟩
              case measure => simp [intOf]; omega
            · go_wp2_with fail
              go_ret
              exact ⟨_, l, ys, rfl, O7.out, by omega, C7.out.more (by omega), G7.out⟩
          · go_wp2_with fail
            go_ret
            exact ⟨_, l, ys, rfl, O7.out, by omega, C7.out.more (by omega), G7.out⟩
      have d1 : (i == 1) = false := by simpa using h1
      by_cases h2 : i = 2
      · subst h2
        go_wp2_with fail
        refine (among_new (999) 1000 p _ 2 [999, 1000] _ w4 C4.out (by omega) (by omega) (by omega) rfl rfl (by decide)).mono ?_
        rintro e w5 ⟨z, rfl, z0, z1, hcN, hgN⟩
        have O5 := Lib.hid (own_kept O4.out hgN (fun g e => by cases e; exact hp))
        have C5 := Lib.hid hcN
        have G5 := Lib.hid (grown_trans G4.out hgN)
        have HSZ := Lib.hid G5.out.size
        clear hcN hgN O4 C4 G4
        go_wp2_with (at_builtin; refine wpList_append_own _ rfl (.tmp 65) (.tmp 70) 33 rfl w.heap.size 25 i0 (.agg #[.int .i64 0, .int .i64 0, .int .i64 0, .int .i64 0, .int .i64 0, .int .i64 0]) 6 48 Tryz.underlying33 hi hz0 hz1 hz2 rfl (by decide) _ k (cellsI zs) rfl (O5.out.alloc _) ⟨w5.heap.size, 0, none⟩ 1 1 [.int .i64 z, .int .i64 2, .int .i64 0, .int .i64 0, .int .i64 9999, .int .i64 0] rfl rfl (cells_new _ _ #[.int .i64 z, .int .i64 2, .int .i64 0, .int .i64 0, .int .i64 9999, .int .i64 0]) (six_cells _ _ _ _ _ _) (by unfold maxLen; omega) (by omega) (by rw [World.size_alloc]; have := HSZ.out; omega) ?_; intro v' w9 hown' hgrow hnil)
        have C9 := Lib.hid (cur_append C5.out O5.out hp HSZ.out hgrow)
        have G9 := Lib.hid (grown_append G5.out O5.out (Nat.le_refl _) hgrow)
        have O9 := Lib.hid (own_grow6 hown')
        clear hown' hgrow hnil O5 C5 G5 HSZ
        go_wp2_with fail
        go_ret
        exact ⟨_, k + 1, _, rfl, O9.out, by omega, C9.out.more (by omega), G9.out⟩
      have d2 : (i == 2) = false := by simpa using h2
      go_wp2_with fail
      go_ret
      exact ⟨_, k, zs, rfl, O4.out, by omega, C4.out.more (by omega), G4.out⟩

end Go.Proofs.YtfigjfckelichaaGreatDoor.drawt14

/- spec's draws of plots and of a gate. -/
namespace Go.Proofs.YtfigjfckelichaaGreatDoor.drawu14
open Go.RowKit Go.Proofs.YtfigjfckelichaaGreatDoor.cur Go.Proofs.YtfigjfckelichaaGreatDoor.atc Go.Proofs.YtfigjfckelichaaGreatDoor.ats Go.Proofs.YtfigjfckelichaaGreatDoor.ints Go.Proofs.YtfigjfckelichaaGreatDoor.lst Go.Proofs.YtfigjfckelichaaGreatDoor.code_ Go.Proofs.YtfigjfckelichaaGreatDoor.draws14 Go.Proofs.YtfigjfckelichaaGreatDoor.drawt14 Go.Proofs.YtfigjfckelichaaGreatDoor.trk Go.Proofs.YtfigjfckelichaaGreatDoor.tailh

theorem infoP : (Tryz.prog.info? 35).map (fun i => (i.zero, i.size, i.bytes)) = some (some (.agg #[.int .i64 0, .int .i64 0]), 2, 16) := by kernel_rfl
theorem own_grow2 {w : World} {B e n : Nat} {v : Value} {xs : List Int} {x0 x1 : Int} (h : w.ownsRow B e 2 v (n + 1) (cellsI xs ++ [.int .i64 x0, .int .i64 x1])) : w.ownsRow B e 2 v (n + 1) (cellsI (xs ++ [x0, x1])) := by
  unfold cellsI at h ⊢
  rw [List.map_append]
  exact h
theorem own_pos {w : World} {B e s n c : Nat} {A : Option Addr} {xs : List Value} (h : w.ownsRow B e s (.slice A n c) n xs) (hn : 0 < n) : ∃ g, A = some ⟨g, 0, none⟩ ∧ n ≤ c := by
  rcases h.2 with ⟨_, e2⟩ | ⟨g, cap, cur, e2, _, _, hle, _⟩
  · omega
  · injection e2 with e2 e3 e4
    subst e4
    exact ⟨g, e2, hle⟩
theorem least14_least (a b : Int) (w : World) :
    Calls Tryz.prog 111 #[.int .i64 a, .int .i64 b] w fun e w' => (∃ z : Int, e = .returned (.int .i64 z)) ∧ w' = w := by
  rcases Int.lt_trichotomy a b with h | h | h
  · have g1 : decide (a < b) = true := decide_eq_true h
    have g2 : decide (b < a) = false := decide_eq_false (by omega)
    clear h
    go_enter Tryz.func111, Tryz.ntmps111
    go_wp2_with fail
    go_ret
    exact ⟨⟨_, rfl⟩, rfl⟩
  · have g1 : decide (a < b) = false := decide_eq_false (by omega)
    have g2 : decide (b < a) = false := decide_eq_false (by omega)
    clear h
    go_enter Tryz.func111, Tryz.ntmps111
    go_wp2_with fail
    go_ret
    exact ⟨⟨_, rfl⟩, rfl⟩
  · have g1 : decide (a < b) = false := decide_eq_false (by omega)
    have g2 : decide (b < a) = true := decide_eq_true h
    clear h
    go_enter Tryz.func111, Tryz.ntmps111
    go_wp2_with fail
    go_ret
    exact ⟨⟨_, rfl⟩, rfl⟩
theorem least14_most (a b : Int) (w : World) :
    Calls Tryz.prog 110 #[.int .i64 a, .int .i64 b] w fun e w' => (∃ z : Int, e = .returned (.int .i64 z)) ∧ w' = w := by
  rcases Int.lt_trichotomy a b with h | h | h
  · have g1 : decide (a < b) = true := decide_eq_true h
    have g2 : decide (b < a) = false := decide_eq_false (by omega)
    clear h
    go_enter Tryz.func110, Tryz.ntmps110
    go_wp2_with fail
    go_ret
    exact ⟨⟨_, rfl⟩, rfl⟩
  · have g1 : decide (a < b) = false := decide_eq_false (by omega)
    have g2 : decide (b < a) = false := decide_eq_false (by omega)
    clear h
    go_enter Tryz.func110, Tryz.ntmps110
    go_wp2_with fail
    go_ret
    exact ⟨⟨_, rfl⟩, rfl⟩
  · have g1 : decide (a < b) = false := decide_eq_false (by omega)
    have g2 : decide (b < a) = true := decide_eq_true h
    clear h
    go_enter Tryz.func110, Tryz.ntmps110
    go_wp2_with fail
    go_ret
    exact ⟨⟨_, rfl⟩, rfl⟩
theorem gate (p m : Nat) (w : World) (h : Cur w p m) (hm : m ≤ 500000) :
    Calls Tryz.prog 86 #[.pointer (some ⟨p, 0, none⟩)] w (Reads (-1) 1001 p (m + 2) w) := by
  have hx := Lib.hid (among_new (-1) 1001 p m 11 [0, 5, 10, 20, 30, 40, 1000, 1001, -1, 25, 15] #[.int .i64 0, .int .i64 5, .int .i64 10, .int .i64 20, .int .i64 30, .int .i64 40, .int .i64 1000, .int .i64 1001, .int .i64 (-1), .int .i64 25, .int .i64 15] w h (by omega) (by omega) (by omega) rfl rfl (by decide))
  clear h
  go_enter Tryz.func86, Tryz.ntmps86
  go_wp2_with fail
  refine hx.out.mono ?_
  rintro e w1 ⟨x, rfl, x0, x1, hc, hg⟩
  have H := Lib.hid (show ∃ z : Int, (Ending.returned (.int .i64 x)) = .returned (.int .i64 z) ∧ -1 ≤ z ∧ z ≤ 1001 ∧ Cur w1 p (m + 2) ∧ w.grownBy w1 (some p) from ⟨x, rfl, x0, x1, hc, hg⟩)
  clear x0 x1 hc hg
  go_wp2_with fail
  go_ret
  exact H.out
def PlotsQ (p m : Nat) (w : World) (e : Ending) (w' : World) : Prop := ∃ v n zs, e = .returned v ∧ w'.ownsRow w.heap.size 35 2 v n (cellsI zs) ∧ n ≤ 7 ∧ Cur w' p m ∧ w.grownBy w' (some p)
set_option maxRecDepth 100000 in
set_option maxHeartbeats 16000000 in
theorem plots (zs0 : List Int) (A : Option Addr) (n c B p m : Nat) (w : World) (h : Cur w p m) (hm : m ≤ 100000) (hn : n ≤ 9) (hpB : p < B) (ho0 : w.ownsRow B 25 6 (.slice A n c) n (cellsI zs0)) :
    Calls Tryz.prog 85 #[.pointer (some ⟨p, 0, none⟩), .slice A n c] w (PlotsQ p (m + 400) w) := by
  have hp := h.lt
  obtain ⟨i0, hi, hz0, hz1, hz2⟩ := info_parts infoP
  have LI := Lib.hid ho0
  have HLZ := Lib.hid (own_len6 ho0)
  have O0 := Lib.hid (own_emptyZ w 35 2)
  have C0 := Lib.hid (h.keep ((Below.refl (p + 1) w).alloc (by omega) (.cells #[] 35)))
  have G0 := Lib.hid (show w.grownBy (w.alloc (.cells #[] 35)) (some p) from grown_alloc _ _)
  clear h ho0
  go_enter Tryz.func85, Tryz.ntmps85
  go_upto_region 2 with fail
  generalize w.alloc (.cells #[] 35) = W at *
  go_wp2_with fail
  refine (pick p _ 5 W C0.out (by omega) (by omega) (by omega)).mono ?_
  rintro e w1 ⟨r, rfl, r0, r1, hcN, hgN⟩
  have O2 := Lib.hid (own_kept O0.out hgN (fun g e => by cases e; exact hp))
  have C2 := Lib.hid hcN
  have G2 := Lib.hid (grown_trans G0.out hgN)
  clear hcN hgN O0 C0 G0
  obtain ⟨q0, rfl⟩ := Int.eq_ofNat_of_zero_le r0
  go_wp2_with fail
  go_loopw [5, 6, 7, 8] (fun v nv _ _ wr => ∃ (t k : Nat) (zs : List Int), t + k ≤ 4 ∧ nv = .int .i64 (t : Int) ∧ wr.ownsRow w.heap.size 35 2 v k (cellsI zs) ∧ Cur wr p (m + 200 - 40 * t) ∧ w.grownBy wr (some p)) (fun _ nv _ _ _ => (intOf nv).toNat)
  case atStart => exact ⟨q0, 0, [], by omega, rfl, O2.out, C2.out.more (by omega), G2.out⟩
  case round =>
    obtain ⟨t, k, zs, ht, rfl, ho, hc, hg⟩ := hrel
    clear O2 C2 G2
    have O3 := Lib.hid ho
    have C3 := Lib.hid hc
    have G3 := Lib.hid hg
    clear ho hc hg
    by_cases hlt : 0 < t
    · have hlt2 : (0 : Int) < (t : Int) := by omega
      have e4 : IntKind.i64.wrap ((t : Int) - 1) = (t : Int) - 1 := IntWalk.i64_in _ (by omega)
      go_wp2_with fail
      refine (drawp7.place p _ wr C3.out (by omega)).mono ?_
      rintro e w4 ⟨x, y, rfl, -, hcN, hgN⟩
      have O4 := own_kept O3.out hgN (fun g e => by cases e; exact hp)
      have G4 := grown_trans G3.out hgN
      have hpp : p < w4.heap.size := hcN.lt
      have hwp : w.heap.size ≤ w4.heap.size := G4.size
      have hobl := own_row_lt O4
      have HPB := Lib.hid (show ∀ g, Value.ownBlock _ = some g → some w4.heap.size ≠ some g from fun g e e2 => by injection e2 with e2; have := hobl g e; omega)
      have O5 := Lib.hid (O4.alloc (.cells #[.int .i64 x, .int .i64 y] 35))
      have G5 := Lib.hid (grown_trans G4 (grown_alloc (.cells #[.int .i64 x, .int .i64 y] 35) (some p)))
      have C5 := Lib.hid (Cur.alloc hcN (.cells #[.int .i64 x, .int .i64 y] 35))
      have P5 := Lib.hid (Blk.new 35 #[.int .i64 x, .int .i64 y] w4)
      clear hcN hgN O3 C3 G3 O4 G4 hobl
      go_upto_region 6 with fail
      generalize w4.alloc (.cells #[.int .i64 x, .int .i64 y] 35) = w5 at *
      generalize w4.heap.size = pb at *
      rcases Nat.eq_zero_or_pos n with hn0 | hn0
      · subst hn0
        have n1 : ((0 : Nat) : Int) = 0 := rfl
        have HSZ := Lib.hid G5.out.size
        have b0 : w5.cell? ⟨pb, 0, none⟩ = some (.int .i64 x) := P5.out.cell 0 _ rfl
        have b1 : w5.cell? ⟨pb, 1, none⟩ = some (.int .i64 y) := P5.out.cell 1 _ rfl
        go_wp2_with (at_builtin; refine wpList_append_own _ rfl (.tmp 51) (.tmp 53) 46 rfl w.heap.size 35 i0 (.agg #[.int .i64 0, .int .i64 0]) 2 16 Tryz.underlying46 hi hz0 hz1 hz2 rfl (by decide) _ k (cellsI zs) rfl (O5.out.alloc _) ⟨w5.heap.size, 0, none⟩ 1 1 [.int .i64 x, .int .i64 y] rfl rfl (cells_new _ _ #[.int .i64 x, .int .i64 y]) (two_cells _ _) (by unfold maxLen; omega) (by omega) (by rw [World.size_alloc]; have := HSZ.out; omega) ?_; intro v' w9 hown' hgrow hnil)
        have C9 := Lib.hid (cur_append C5.out O5.out hp HSZ.out hgrow)
        have G9 := Lib.hid (grown_append G5.out O5.out (Nat.le_refl _) hgrow)
        have O9 := Lib.hid (own_grow2 hown')
        clear hown' hgrow hnil O5 C5 G5 HSZ
        go_wp2_with fail
        go_roundw
        case rel => exact ⟨t - 1, k + 1, _, by omega, (by show Value.int .i64 _ = Value.int .i64 _; congr 1; omega), O9.out, C9.out.more (by omega), G9.out⟩
        case measure => simp [intOf]; omega
      have hn1 : (0 : Int) < (n : Int) := by omega
      go_wp2_with fail
      refine (one p _ 3 w5 C5.out (by omega) (by omega) (by omega)).mono ?_
      rintro e w6 ⟨b, rfl, hcN, hgN⟩
      have O6 := Lib.hid (own_kept O5.out hgN (fun g e => by cases e; exact hp))
      have G6 := Lib.hid (grown_trans G5.out hgN)
      have C6 := Lib.hid hcN
      have P6 := Lib.hid (P5.out.grown hgN (Nat.ne_of_gt hpp))
      clear hcN hgN O5 G5 C5 P5
      cases b
      rotate_left
      · have HSZ := Lib.hid G6.out.size
        have b0 : w6.cell? ⟨pb, 0, none⟩ = some (.int .i64 x) := P6.out.cell 0 _ rfl
        have b1 : w6.cell? ⟨pb, 1, none⟩ = some (.int .i64 y) := P6.out.cell 1 _ rfl
        go_wp2_with (at_builtin; refine wpList_append_own _ rfl (.tmp 51) (.tmp 53) 46 rfl w.heap.size 35 i0 (.agg #[.int .i64 0, .int .i64 0]) 2 16 Tryz.underlying46 hi hz0 hz1 hz2 rfl (by decide) _ k (cellsI zs) rfl (O6.out.alloc _) ⟨w6.heap.size, 0, none⟩ 1 1 [.int .i64 x, .int .i64 y] rfl rfl (cells_new _ _ #[.int .i64 x, .int .i64 y]) (two_cells _ _) (by unfold maxLen; omega) (by omega) (by rw [World.size_alloc]; have := HSZ.out; omega) ?_; intro v' w9 hown' hgrow hnil)
        have C9 := Lib.hid (cur_append C6.out O6.out hp HSZ.out hgrow)
        have G9 := Lib.hid (grown_append G6.out O6.out (Nat.le_refl _) hgrow)
        have O9 := Lib.hid (own_grow2 hown')
        clear hown' hgrow hnil O6 C6 G6 HSZ
        go_wp2_with fail
        go_roundw
        case rel => exact ⟨t - 1, k + 1, _, by omega, (by show Value.int .i64 _ = Value.int .i64 _; congr 1; omega), O9.out, C9.out.more (by omega), G9.out⟩
        case measure => simp [intOf]; omega
      go_wp2_with fail
      refine (pick p _ (n : Int) w6 C6.out (by omega) (by omega) (by omega)).mono ?_
      rintro e w7 ⟨r, rfl, r0, r1, hcN, hgN⟩
      have O7 := Lib.hid (own_kept O6.out hgN (fun g e => by cases e; exact hp))
      have G7 := Lib.hid (grown_trans G6.out hgN)
      have C7 := Lib.hid hcN
      have P7 := Lib.hid (P6.out.grown hgN (Nat.ne_of_gt hpp))
      clear hcN hgN O6 G6 C6 P6
      obtain ⟨kk, rfl⟩ := Int.eq_ofNat_of_zero_le r0
      have hkk : kk < n := by omega
      have hkki : (kk : Int) < (n : Int) := by omega
      have hkk0 : (0 : Int) ≤ (kk : Int) := r0
      have hli := own_kept LI.out G7.out (fun g e => by cases e; exact hpB)
      obtain ⟨gl, eA, hnc⟩ := own_pos hli hn0
      subst eA
      obtain ⟨b, o, eA, hbl, q0, q1, q2, q3, q4, q5⟩ := trke.cellsE (RdZ.of_own hli HLZ.out) hkk
      obtain ⟨rfl, rfl⟩ : gl = b ∧ 0 = o := by injection eA with e; injection e with e1 e2; exact ⟨e1, e2⟩
      rw [Nat.zero_add] at q0 q1 q2 q3 q4 q5
      generalize fld 6 zs0 kk 0 = f0 at *
      generalize fld 6 zs0 kk 1 = f1 at *
      generalize fld 6 zs0 kk 2 = f2 at *
      generalize fld 6 zs0 kk 3 = f3 at *
      generalize fld 6 zs0 kk 4 = f4 at *
      generalize fld 6 zs0 kk 5 = f5 at *
      have T7 := Lib.hid (Blk.new 25 #[.int .i64 f0, .int .i64 f1, .int .i64 f2, .int .i64 f3, .int .i64 f4, .int .i64 f5] w7)
      have htp : p < w7.heap.size := C7.out.lt
      have O7' := Lib.hid (O7.out.alloc (.cells #[.int .i64 f0, .int .i64 f1, .int .i64 f2, .int .i64 f3, .int .i64 f4, .int .i64 f5] 25))
      have G7' := Lib.hid (grown_trans G7.out (grown_alloc (.cells #[.int .i64 f0, .int .i64 f1, .int .i64 f2, .int .i64 f3, .int .i64 f4, .int .i64 f5] 25) (some p)))
      have C7' := Lib.hid (Cur.alloc C7.out (.cells #[.int .i64 f0, .int .i64 f1, .int .i64 f2, .int .i64 f3, .int .i64 f4, .int .i64 f5] 25))
      have P7' := Lib.hid (P7.out.alloc (.cells #[.int .i64 f0, .int .i64 f1, .int .i64 f2, .int .i64 f3, .int .i64 f4, .int .i64 f5] 25))
      clear hli O7 G7 C7 P7 r0 r1
      go_upto_region 8 with fail
      clear q0 q1 q2 q3 q4 q5 eA
      generalize w7.alloc (.cells #[.int .i64 f0, .int .i64 f1, .int .i64 f2, .int .i64 f3, .int .i64 f4, .int .i64 f5] 25) = w7a at *
      generalize w7.heap.size = tb at *
      have O7 := Lib.hid (show w7a.drew.ownsRow w.heap.size 35 2 _ k (cellsI zs) from own_.own_drewN O7'.out 1)
      have G7 := Lib.hid (grown_dr G7'.out)
      have C7 := Lib.hid (C7'.out.keep ((Below.refl (p + 1) w7a).drew))
      have P7 := Lib.hid P7'.out.drew
      have T7 := Lib.hid T7.out.drew
      clear O7' G7' C7' P7'
      refine wp_region_tail (S := fun w' => Blk 25 #[.int .i64 f0, .int .i64 f1, .int .i64 f2, .int .i64 f3, .int .i64 f4, .int .i64 f5] w' tb) 17 (by kernel_rfl) T7.out (fun hHeld => ?_)
      generalize w7a.drew = w7 at *
      try simp only [Act.put]
      refine wpAnyE_take (i := 0) (v := ?vq0) rfl (by decide +kernel) (fun _ _ _ h => h) (Or.inl ⟨by rfl, ?hq0⟩) (by assumption) ?rq0
      case hq0 =>
        intro wS hSw
        have h2 := hSw.cell 2 _ rfl
        have h3 := hSw.cell 3 _ rfl
        go_simp
        try with_reducible rfl
      try simp only [Act.put]
      refine wpAnyE_take (i := 1) (v := ?vq1) rfl (by decide +kernel) (fun _ _ _ h => h) (Or.inl ⟨by rfl, ?hq1⟩) (by assumption) ?rq1
      case hq1 =>
        intro wS hSw
        have h2 := hSw.cell 2 _ rfl
        have h3 := hSw.cell 3 _ rfl
        go_simp
        try with_reducible rfl
      try simp only [Act.put]
      refine wpAnyE_take (i := 2) (v := ?vq2) rfl (by decide +kernel) (fun _ _ _ h => h) (Or.inl ⟨by rfl, ?hq2⟩) (by assumption) ?rq2
      case hq2 =>
        intro wS hSw
        have h2 := hSw.cell 2 _ rfl
        have h3 := hSw.cell 3 _ rfl
        go_simp
        try with_reducible rfl
      try simp only [Act.put]
      refine wpAnyE_take (i := 8) (v := ?vq8) rfl (by decide +kernel) (fun _ _ _ h => h) (Or.inl ⟨by rfl, ?hq8⟩) (by assumption) ?rq8
      case hq8 =>
        intro wS hSw
        have h2 := hSw.cell 2 _ rfl
        have h3 := hSw.cell 3 _ rfl
        go_simp
        try with_reducible rfl
      try simp only [Act.put]
      refine wpAnyE_take (i := 9) (v := ?vq9) rfl (by decide +kernel) (fun _ _ _ h => h) (Or.inl ⟨by rfl, ?hq9⟩) (by assumption) ?rq9
      case hq9 =>
        intro wS hSw
        have h2 := hSw.cell 2 _ rfl
        have h3 := hSw.cell 3 _ rfl
        go_simp
        try with_reducible rfl
      try simp only [Act.put]
      refine wpAnyE_take (i := 10) (v := ?vq10) rfl (by decide +kernel) (fun _ _ _ h => h) (Or.inl ⟨by rfl, ?hq10⟩) (by assumption) ?rq10
      case hq10 =>
        intro wS hSw
        have h2 := hSw.cell 2 _ rfl
        have h3 := hSw.cell 3 _ rfl
        go_simp
        try with_reducible rfl
      try simp only [Act.put]
      refine wpAnyE_ready (rs := [3]) (by kernel_rfl) (by simp) ?_
      refine AllReadyE.cons (i := 3) rfl (by decide) (fun K hK => ?_) AllReadyE.nil
      go_simp
      refine (pick p _ 40 w7 C7.out (by omega) (by omega) (by omega)).mono ?_
      rintro e w8 ⟨z, rfl, z0, z1, hcN, hgN⟩
      have O8 := Lib.hid (own_kept O7.out hgN (fun g e => by cases e; exact hp))
      have G8 := Lib.hid (grown_trans G7.out hgN)
      have C8 := Lib.hid hcN
      have P8 := Lib.hid (P7.out.grown hgN (Nat.ne_of_gt hpp))
      have T8 := Lib.hid (T7.out.grown hgN (Nat.ne_of_gt htp))
      clear hcN hgN O7 G7 C7 P7 T7
      refine hK.out _ _ T8.out (fun hHeld => ?_)
      clear hK K
      try simp only [Act.put]
      refine wpAnyE_take (i := 4) (v := ?vq4) rfl (by decide +kernel) (fun _ _ _ h => h) (Or.inl ⟨by rfl, ?hq4⟩) (by assumption) ?rq4
      case hq4 =>
        intro wS hSw
        have h2 := hSw.cell 2 _ rfl
        have h3 := hSw.cell 3 _ rfl
        go_simp
        try with_reducible rfl
      try simp only [Act.put]
      refine wpAnyE_take (i := 5) (v := ?vq5) rfl (by decide +kernel) (fun _ _ _ h => h) (Or.inl ⟨by rfl, ?hq5⟩) (by assumption) ?rq5
      case hq5 =>
        intro wS hSw
        have h2 := hSw.cell 2 _ rfl
        have h3 := hSw.cell 3 _ rfl
        go_simp
        try with_reducible rfl
      try simp only [Act.put]
      refine wpAnyE_ready (rs := [6]) (by kernel_rfl) (by simp) ?_
      refine AllReadyE.cons (i := 6) rfl (by decide) (fun K hK => ?_) AllReadyE.nil
      go_simp
      refine (least14_least _ _ w8).mono ?_
      rintro e wl ⟨⟨la, rfl⟩, hwl⟩
      obtain rfl : w8 = wl := hwl.symm
      refine hK.out _ _ T8.out (fun hHeld => ?_)
      clear hK K
      try simp only [Act.put]
      refine wpAnyE_ready (rs := [7]) (by kernel_rfl) (by simp) ?_
      refine AllReadyE.cons (i := 7) rfl (by decide) (fun K hK => ?_) AllReadyE.nil
      go_simp
      refine (least14_most _ _ w8).mono ?_
      rintro e wl ⟨⟨ma, rfl⟩, hwl⟩
      obtain rfl : w8 = wl := hwl.symm
      refine hK.out _ _ T8.out (fun hHeld => ?_)
      clear hK K
      try simp only [Act.put]
      refine wpAnyE_ready (rs := [11]) (by kernel_rfl) (by simp) ?_
      refine AllReadyE.cons (i := 11) rfl (by decide) (fun K hK => ?_) AllReadyE.nil
      go_simp
      refine (pick p _ 40 w8 C8.out (by omega) (by omega) (by omega)).mono ?_
      rintro e w9 ⟨u, rfl, u0, u1, hcN, hgN⟩
      have O9 := Lib.hid (own_kept O8.out hgN (fun g e => by cases e; exact hp))
      have G9 := Lib.hid (grown_trans G8.out hgN)
      have C9 := Lib.hid hcN
      have P9 := Lib.hid (P8.out.grown hgN (Nat.ne_of_gt hpp))
      have T9 := Lib.hid (T8.out.grown hgN (Nat.ne_of_gt htp))
      clear hcN hgN O8 G8 C8 P8 T8
      refine hK.out _ _ T9.out (fun hHeld => ?_)
      clear hK K
      try simp only [Act.put]
      refine wpAnyE_take (i := 12) (v := ?vq12) rfl (by decide +kernel) (fun _ _ _ h => h) (Or.inl ⟨by rfl, ?hq12⟩) (by assumption) ?rq12
      case hq12 =>
        intro wS hSw
        have h2 := hSw.cell 2 _ rfl
        have h3 := hSw.cell 3 _ rfl
        go_simp
        try with_reducible rfl
      try simp only [Act.put]
      refine wpAnyE_take (i := 13) (v := ?vq13) rfl (by decide +kernel) (fun _ _ _ h => h) (Or.inl ⟨by rfl, ?hq13⟩) (by assumption) ?rq13
      case hq13 =>
        intro wS hSw
        have h2 := hSw.cell 2 _ rfl
        have h3 := hSw.cell 3 _ rfl
        go_simp
        try with_reducible rfl
      try simp only [Act.put]
      refine wpAnyE_ready (rs := [14]) (by kernel_rfl) (by simp) ?_
      refine AllReadyE.cons (i := 14) rfl (by decide) (fun K hK => ?_) AllReadyE.nil
      go_simp
      refine (least14_least _ _ w9).mono ?_
      rintro e wl ⟨⟨lb, rfl⟩, hwl⟩
      obtain rfl : w9 = wl := hwl.symm
      refine hK.out _ _ T9.out (fun hHeld => ?_)
      clear hK K
      try simp only [Act.put]
      refine wpAnyE_ready (rs := [15]) (by kernel_rfl) (by simp) ?_
      refine AllReadyE.cons (i := 15) rfl (by decide) (fun K hK => ?_) AllReadyE.nil
      go_simp
      refine (least14_most _ _ w9).mono ?_
      rintro e wl ⟨⟨mb, rfl⟩, hwl⟩
      obtain rfl : w9 = wl := hwl.symm
      refine hK.out _ _ T9.out (fun hHeld => ?_)
      clear hK K
      try simp only [Act.put]
      refine wpAnyE_take (i := 16) (v := ?vq16) rfl (by decide +kernel) (fun _ _ _ h => h) (Or.inl ⟨by rfl, ?hq16⟩) (by assumption) ?rq16
      case hq16 =>
        intro wS hSw
        have h2 := hSw.cell 2 _ rfl
        have h3 := hSw.cell 3 _ rfl
        go_simp
        try with_reducible rfl
      try simp only [Act.put]
      have s0 : w9.cell? ⟨pb, 0, none⟩ = some (.int .i64 x) := P9.out.cell 0 _ rfl
      have sf0 := P9.out.frozen 0
      have s1 : w9.cell? ⟨pb, 1, none⟩ = some (.int .i64 y) := P9.out.cell 1 _ rfl
      have sf1 := P9.out.frozen 1
      refine wpAnyE_ready (rs := [17]) (by kernel_rfl) (by simp) ?_
      refine AllReadyE.last (i := 17) rfl rfl (fun K hK => ?_)
      go_simp
      refine hK.out _ _ ?_
      clear hK K s0 s1 sf0 sf1
      try simp only [Act.put]
      refine wpAnyE_done (by kernel_rfl) ?_ _
      try simp only [List.getElem_toArray, List.getElem_cons_succ, List.getElem_cons_zero, List.setIfInBounds_toArray, List.set_cons_succ, List.set_cons_zero]
      have OA := Lib.hid (own_kept_at (own_kept_at O9.out (lst.grown_set (lst.grown_refl w9 (some pb)) 0 (.int .i64 ma)) HPB.out) (lst.grown_set (lst.grown_refl _ (some pb)) 1 (.int .i64 mb)) HPB.out)
      have CA := Lib.hid (Cur.set (Cur.set C9.out hpp (i := 0) (v := .int .i64 ma)) hpp (i := 1) (v := .int .i64 mb))
      have GA := Lib.hid (grown_put (grown_put G9.out hwp (i := 0) (v := .int .i64 ma)) hwp (i := 1) (v := .int .i64 mb))
      have PA := Lib.hid (show Blk 35 #[.int .i64 ma, .int .i64 mb] _ pb from (P9.out.set 0 (.int .i64 ma)).set 1 (.int .i64 mb))
      clear O9 C9 G9 P9 T9
      generalize (w9.setCell ⟨pb, 0, none⟩ (.int .i64 ma)).setCell ⟨pb, 1, none⟩ (.int .i64 mb) = wA at *
      have HSZ := Lib.hid GA.out.size
      have b0 : wA.cell? ⟨pb, 0, none⟩ = some (.int .i64 ma) := PA.out.cell 0 _ rfl
      have b1 : wA.cell? ⟨pb, 1, none⟩ = some (.int .i64 mb) := PA.out.cell 1 _ rfl
      go_wp2_with (at_builtin; refine wpList_append_own _ rfl (.tmp 51) (.tmp 53) 46 rfl w.heap.size 35 i0 (.agg #[.int .i64 0, .int .i64 0]) 2 16 Tryz.underlying46 hi hz0 hz1 hz2 rfl (by decide) _ k (cellsI zs) rfl (OA.out.alloc _) ⟨wA.heap.size, 0, none⟩ 1 1 [.int .i64 ma, .int .i64 mb] rfl rfl (cells_new _ _ #[.int .i64 ma, .int .i64 mb]) (two_cells _ _) (by unfold maxLen; omega) (by omega) (by rw [World.size_alloc]; have := HSZ.out; omega) ?_; intro v' w9 hown' hgrow hnil)
      have C9 := Lib.hid (cur_append CA.out OA.out hp HSZ.out hgrow)
      have G9 := Lib.hid (grown_append GA.out OA.out (Nat.le_refl _) hgrow)
      have O9 := Lib.hid (own_grow2 hown')
      clear hown' hgrow hnil OA CA GA HSZ
      go_wp2_with fail
      go_roundw
      case rel => exact ⟨t - 1, k + 1, _, by omega, (by show Value.int .i64 _ = Value.int .i64 _; congr 1; omega), O9.out, C9.out.more (by omega), G9.out⟩
      case measure => simp [intOf]; omega
    · obtain rfl : t = 0 := by omega
      go_wp2_with fail
      refine (pick p _ 24 wr C3.out (by omega) (by omega) (by omega)).mono ?_
      rintro e w4 ⟨i, rfl, i0', i1', hcN, hgN⟩
      have O4 := Lib.hid (own_kept O3.out hgN (fun g e => by cases e; exact hp))
      have C4 := Lib.hid hcN
      have G4 := Lib.hid (grown_trans G3.out hgN)
      clear hcN hgN O3 C3 G3
      by_cases h0 : i = 0
      · subst h0
        go_wp2_with fail
        refine (drawp7.anyPlace p _ w4 C4.out (by omega)).mono ?_
        rintro e w5 ⟨x, y, rfl, -, hcN, hgN⟩
        have O5 := Lib.hid (own_kept O4.out hgN (fun g e => by cases e; exact hp))
        have C5 := Lib.hid hcN
        have G5 := Lib.hid (grown_trans G4.out hgN)
        have HSZ := Lib.hid G5.out.size
        clear hcN hgN O4 C4 G4
        go_wp2_with (at_builtin; refine wpList_append_own _ rfl (.tmp 59) (.tmp 62) 46 rfl w.heap.size 35 i0 (.agg #[.int .i64 0, .int .i64 0]) 2 16 Tryz.underlying46 hi hz0 hz1 hz2 rfl (by decide) _ k (cellsI zs) rfl (O5.out.alloc _) ⟨w5.heap.size, 0, none⟩ 1 1 [.int .i64 x, .int .i64 y] rfl rfl (cells_new _ _ #[.int .i64 x, .int .i64 y]) (two_cells _ _) (by unfold maxLen; omega) (by omega) (by rw [World.size_alloc]; have := HSZ.out; omega) ?_; intro v' w9 hown' hgrow hnil)
        have C9 := Lib.hid (cur_append C5.out O5.out hp HSZ.out hgrow)
        have G9 := Lib.hid (grown_append G5.out O5.out (Nat.le_refl _) hgrow)
        have O9 := Lib.hid (own_grow2 hown')
        clear hown' hgrow hnil O5 C5 G5 HSZ
        go_wp2_with fail
        go_ret
        exact ⟨_, k + 1, _, rfl, O9.out, by omega, C9.out.more (by omega), G9.out⟩
      have d0 : (i == 0) = false := by simpa using h0
      by_cases h1 : i = 1
      · subst h1
        obtain ⟨A4, c4, rfl⟩ := own_sliceZ O4.out
        go_wp2_with fail
        go_loopw [5, 9] (fun v nv wr => ∃ (l j : Nat) (A' : Option Addr) (c' : Nat) (ys : List Int), l ≤ 6 ∧ j ≤ 7 ∧ v = .slice A' l c' ∧ nv = .int .i64 (j : Int) ∧ wr.ownsRow w.heap.size 35 2 (.slice A' l c') l (cellsI ys) ∧ Cur wr p (m + 300 + 4 * j) ∧ w.grownBy wr (some p)) (fun _ nv _ => 7 - (intOf nv).toNat)
        case atStart => exact ⟨k, 0, A4, c4, zs, by omega, by omega, rfl, rfl, O4.out, C4.out.more (by omega), G4.out⟩
        case round =>
          obtain ⟨l, j, A', c', ys, hl7, hj8, rfl, rfl, ho, hc, hg⟩ := hrel
          clear O4 C4 G4
          go_wp2_with fail
          refine (pick p _ 2 wr hc (by omega) (by omega) (by omega)).mono ?_
          rintro e w7 ⟨r, rfl, r0, r1, hcN, hgN⟩
          have O7 := Lib.hid (own_kept ho hgN (fun g e => by cases e; exact hp))
          have C7 := Lib.hid hcN
          have G7 := Lib.hid (grown_trans hg hgN)
          have HSZ := Lib.hid G7.out.size
          have e5 : IntKind.i64.wrap (5 + r) = 5 + r := IntWalk.i64_in _ (by omega)
          have e6 : IntKind.i64.wrap ((j : Int) + 1) = ((j + 1 : Nat) : Int) := by rw [IntWalk.i64_in _ (by omega)]; omega
          clear ho hc hg hcN hgN
          by_cases hlt3 : (l : Int) < 5 + r
          · by_cases hj : (j : Int) < 7
            · go_wp2_with (at_builtin; refine wpList_append_own _ rfl (.tmp 78) (.tmp 82) 46 rfl w.heap.size 35 i0 (.agg #[.int .i64 0, .int .i64 0]) 2 16 Tryz.underlying46 hi hz0 hz1 hz2 rfl (by decide) _ l (cellsI ys) rfl (O7.out.alloc _) ⟨w7.heap.size, 0, none⟩ 1 1 [.int .i64 ((j : Int)), .int .i64 ((j : Int))] rfl rfl (cells_new _ _ #[.int .i64 ((j : Int)), .int .i64 ((j : Int))]) (two_cells _ _) (by unfold maxLen; omega) (by omega) (by rw [World.size_alloc]; have := HSZ.out; omega) ?_; intro v' w9 hown' hgrow hnil)
              have C9 := Lib.hid (cur_append C7.out O7.out hp HSZ.out hgrow)
              have G9 := Lib.hid (grown_append G7.out O7.out (Nat.le_refl _) hgrow)
              have O9 := Lib.hid (own_grow2 hown')
              clear hown' hgrow hnil O7 C7 G7 HSZ
              obtain ⟨A9, c9, rfl⟩ := own_sliceZ O9.out
              go_wp2_with fail
              go_roundw
              case rel => exact ⟨l + 1, j + 1, A9, c9, _, by omega, by omega, rfl, rfl, O9.out, C9.out.more (by omega), G9.out⟩
              case measure => simp [intOf]; omega
            · go_wp2_with fail
              go_ret
              exact ⟨_, l, ys, rfl, O7.out, by omega, C7.out.more (by omega), G7.out⟩
          · go_wp2_with fail
            go_ret
            exact ⟨_, l, ys, rfl, O7.out, by omega, C7.out.more (by omega), G7.out⟩
      have d1 : (i == 1) = false := by simpa using h1
      go_wp2_with fail
      go_ret
      exact ⟨_, k, zs, rfl, O4.out, by omega, C4.out.more (by omega), G4.out⟩

end Go.Proofs.YtfigjfckelichaaGreatDoor.drawu14

/- spec's draws for the laws of chapter 14: idIn, DrawMissTrack, DrawConfirmedTracks, DrawScanTracks. -/
namespace Go.Proofs.YtfigjfckelichaaGreatDoor.draww14
open Go.RowKit Go.Proofs.YtfigjfckelichaaGreatDoor.cur Go.Proofs.YtfigjfckelichaaGreatDoor.atc Go.Proofs.YtfigjfckelichaaGreatDoor.ats Go.Proofs.YtfigjfckelichaaGreatDoor.ints Go.Proofs.YtfigjfckelichaaGreatDoor.lst Go.Proofs.YtfigjfckelichaaGreatDoor.code_ Go.Proofs.YtfigjfckelichaaGreatDoor.draws14 Go.Proofs.YtfigjfckelichaaGreatDoor.drawt14 Go.Proofs.YtfigjfckelichaaGreatDoor.drawu14 Go.Proofs.YtfigjfckelichaaGreatDoor.trk

theorem cells_app (xs : List Int) (x : Int) : cellsI xs ++ [.int .i64 x] = cellsI (xs ++ [x]) := by unfold cellsI; rw [List.map_append]; rfl
theorem apart_ty {W : World} {B B' e1 e2 s1 s2 n1 n2 : Nat} {v u : Value} {xs ys : List Value} (h1 : W.ownsRow B e1 s1 v n1 xs) (h2 : W.ownsRow B' e2 s2 u n2 ys) (hne : e1 ≠ e2) : ∀ g, u.ownBlock = some g → v.ownBlock ≠ some g := by
  intro g hu hv
  rcases h1.2 with ⟨rfl, _⟩ | ⟨g1, cap, cur, rfl, _, hh, _⟩
  · cases hv
  · rcases h2.2 with ⟨rfl, _⟩ | ⟨g2, cap2, cur2, rfl, _, hh2, _⟩
    · cases hu
    · have x1 : g1 = g := Option.some.inj hv
      have x2 : g2 = g := Option.some.inj hu
      subst x1
      subst x2
      rw [hh] at hh2
      injection hh2 with hh2
      injection hh2 with _ hh2
      exact hne hh2
def IdQ (p m : Nat) (w : World) (e : Ending) (w' : World) : Prop := ∃ i : Int, e = .returned (.int .i64 i) ∧ Cur w' p m ∧ w.grownBy w' (some p)
set_option maxRecDepth 100000 in
set_option maxHeartbeats 4000000 in
theorem idIn (zs0 : List Int) (A : Option Addr) (n c B p m : Nat) (w : World) (h : Cur w p m) (hm : m ≤ 100000) (hn : n ≤ 9) (hpB : p < B) (ho0 : w.ownsRow B 25 6 (.slice A n c) n (cellsI zs0)) :
    Calls Tryz.prog 42 #[.pointer (some ⟨p, 0, none⟩), .slice A n c] w (IdQ p (m + 10) w) := by
  have LI := Lib.hid ho0
  have HLZ := Lib.hid (own_len6 ho0)
  have C0 := Lib.hid h
  clear h ho0
  go_enter Tryz.func42, Tryz.ntmps42
  rcases Nat.eq_zero_or_pos n with hn0 | hn0
  · subst hn0
    have n1 : ((0 : Nat) : Int) = 0 := rfl
    go_wp2_with fail
    refine (pick p _ 12 w C0.out (by omega) (by omega) (by omega)).mono ?_
    rintro e w1 ⟨r, rfl, r0, r1, hc, hg⟩
    have HR := Lib.hid (show IdQ p (m + 10) w (.returned (.int .i64 r)) w1 from ⟨r, rfl, hc.more (by omega), hg⟩)
    clear hc hg
    go_wp2_with fail
    go_ret
    exact HR.out
  · have hn1 : (0 : Int) < (n : Int) := by omega
    have hn2 : ((n : Int) == 0) = false := by simp; omega
    go_wp2_with fail
    refine (one p _ 8 w C0.out (by omega) (by omega) (by omega)).mono ?_
    rintro e w1 ⟨b, rfl, hc, hg⟩
    have C1 := Lib.hid hc
    have G1 := Lib.hid hg
    clear hc hg C0
    cases b
    · go_wp2_with fail
      refine (pick p _ (n : Int) w1 C1.out (by omega) (by omega) (by omega)).mono ?_
      rintro e w7 ⟨r, rfl, r0, r1, hc, hg⟩
      have G7 := Lib.hid (grown_trans G1.out hg)
      have C7 := Lib.hid hc
      clear hc hg
      obtain ⟨kk, rfl⟩ := Int.eq_ofNat_of_zero_le r0
      have hkk : kk < n := by omega
      have hkki : (kk : Int) < (n : Int) := by omega
      have hkk0 : (0 : Int) ≤ (kk : Int) := r0
      have hli := own_kept LI.out G7.out (fun g e => by cases e; exact hpB)
      obtain ⟨gl, eA, hnc⟩ := own_pos hli hn0
      subst eA
      obtain ⟨b, o, eA, hbl, q0, q1, q2, q3, q4, q5⟩ := trke.cellsE (RdZ.of_own hli HLZ.out) hkk
      obtain ⟨rfl, rfl⟩ : gl = b ∧ 0 = o := by injection eA with e; injection e with e1 e2; exact ⟨e1, e2⟩
      rw [Nat.zero_add] at q0 q1 q2 q3 q4 q5
      generalize fld 6 zs0 kk 0 = f0 at *
      have HR := Lib.hid (show IdQ p (m + 10) w (.returned (.int .i64 f0)) w7 from ⟨f0, rfl, C7.out.more (by omega), G7.out⟩)
      clear hli q1 q2 q3 q4 q5 r0 r1
      go_wp2_with fail
      go_ret
      exact HR.out
    · go_wp2_with fail
      refine (pick p _ 12 w1 C1.out (by omega) (by omega) (by omega)).mono ?_
      rintro e w2 ⟨r, rfl, r0, r1, hc, hg⟩
      have HR := Lib.hid (show IdQ p (m + 10) w (.returned (.int .i64 r)) w2 from ⟨r, rfl, hc.more (by omega), grown_trans G1.out hg⟩)
      clear hc hg
      go_wp2_with fail
      go_ret
      exact HR.out
def MissQ (w : World) (e : Ending) (w' : World) : Prop := ∃ v k zs i, e = .returned (.tuple #[v, .int .i64 i]) ∧ w'.ownsRow w.heap.size 25 6 v k (cellsI zs) ∧ k ≤ 9 ∧ Below w.heap.size w w'
def ScanQ (w : World) (e : Ending) (w' : World) : Prop := ∃ v k zs u j xs s l ps, e = .returned (.tuple #[v, u, s]) ∧ w'.ownsRow w.heap.size 25 6 v k (cellsI zs) ∧ k ≤ 9 ∧ w'.ownsRow w.heap.size 3 1 u j (cellsI xs) ∧ j ≤ 10 ∧ w'.ownsRow w.heap.size 35 2 s l (cellsI ps) ∧ l ≤ 10 ∧ Below w.heap.size w w'
end Go.Proofs.YtfigjfckelichaaGreatDoor.draww14

/- spec's draws for FnTracks. -/
namespace Go.Proofs.YtfigjfckelichaaGreatDoor.drawy14
open Go.RowKit Go.Proofs.YtfigjfckelichaaGreatDoor.cur Go.Proofs.YtfigjfckelichaaGreatDoor.atc Go.Proofs.YtfigjfckelichaaGreatDoor.ats Go.Proofs.YtfigjfckelichaaGreatDoor.ints Go.Proofs.YtfigjfckelichaaGreatDoor.lst Go.Proofs.YtfigjfckelichaaGreatDoor.code_ Go.Proofs.YtfigjfckelichaaGreatDoor.draws14 Go.Proofs.YtfigjfckelichaaGreatDoor.drawt14 Go.Proofs.YtfigjfckelichaaGreatDoor.drawu14 Go.Proofs.YtfigjfckelichaaGreatDoor.draww14 Go.Proofs.YtfigjfckelichaaGreatDoor.trk Go.Proofs.YtfigjfckelichaaGreatDoor.trkp Go.Proofs.YtfigjfckelichaaGreatDoor.num Go.Proofs.YtfigjfckelichaaGreatDoor.pos

theorem tl_size {i s x y h l : Int} (hv : tkB i s x y h l = true) : (tlT i s x y h l).size ≤ 200 := by
  obtain ⟨hi, hp, hh, hl, -, -⟩ := tkB_yes hv
  obtain ⟨hx, hy⟩ := pB_yes hp
  have z1 := txt_size i (by omega) (by omega)
  have z2 := txt_size x (by omega) (by omega)
  have z3 := txt_size y (by omega) (by omega)
  have z4 := txt_size h (by omega) (by omega)
  have z5 := txt_size l (by omega) (by omega)
  have z6 := wd_size s.toNat
  have e1 : (⟨#[32]⟩ : ByteArray).size = 1 := rfl
  have e2 : (⟨#[32, 97, 116, 32]⟩ : ByteArray).size = 4 := rfl
  have e3 : (⟨#[44]⟩ : ByteArray).size = 1 := rfl
  have e4 : (⟨#[32, 104, 105, 116, 115, 32]⟩ : ByteArray).size = 6 := rfl
  have e5 : (⟨#[32, 108, 111, 115, 116, 32]⟩ : ByteArray).size = 6 := rfl
  unfold tlT hdT
  split <;> simp only [ByteArray.size_append] <;> omega
theorem own_setbox {W : World} {B e s n b : Nat} {v : Value} {xs : List Value} (h : W.ownsRow B e s v n xs) (hlt : b < B) (i : Nat) (u : Value) : (W.setCell ⟨b, i, none⟩ u).ownsRow B e s v n xs :=
  own_kept_at h (grown_set (grown_refl _ (some b)) i u) (fun g e e2 => by injection e2 with e2; have := own_.row_ge h g e; omega)
theorem bytes_al {w : World} {A : Option Addr} {n : Nat} (o : Obj) (h : Bytes w w.heap.size A n) : Bytes (w.alloc o) (w.alloc o).heap.size A n := by
  intro h0
  obtain ⟨b, o', e, hb, hc⟩ := h h0
  exact ⟨b, o', e, by rw [World.size_alloc]; omega, fun j hj => by
    obtain ⟨x, hx⟩ := hc j hj
    exact ⟨x, (World.cell?_alloc_lt w _ ⟨b, o' + j, none⟩ hb).trans hx.1, hx.2⟩⟩
theorem at_grown {T : TypeId} {cs : Array Value} {w W W' : World} {b p : Nat} (h : AtS T cs w W b) (hg : W.grownBy W' (some p)) (hne : b ≠ p) (hp : w.heap.size ≤ p) : AtS T cs w W' b :=
  ⟨h.1.grown hg h.1.size (fun g e => by injection e with e; omega), h.2.1, Nat.lt_of_lt_of_le h.2.2.1 hg.size, (hg.block b h.2.2.1 (fun e => hne (by injection e))).trans h.2.2.2⟩
theorem results_tc {fn : Func} {p q : Tmp} {ty : TypeId} (h : fn.results = #[.tmp p, .cell q ty]) (tmps : Array Value) (P : Program) (w : World) :
    (results fn tmps).run P w = ((asAddr (tmps.getD q undef)).run P w).andThen fun a w₁ => ((loadVar ty a).run P w₁).andThen fun v w₂ => .ok (.tuple #[tmps.getD p undef, v]) w₂ := by
  simp only [results, h]
  simp [Sem.run_bind, Result.andThen]
theorem results_ttc {fn : Func} {p q r : Tmp} {ty : TypeId} (h : fn.results = #[.tmp p, .tmp q, .cell r ty]) (tmps : Array Value) (P : Program) (w : World) :
    (results fn tmps).run P w = ((asAddr (tmps.getD r undef)).run P w).andThen fun a w₁ => ((loadVar ty a).run P w₁).andThen fun v w₂ => .ok (.tuple #[tmps.getD p undef, tmps.getD q undef, v]) w₂ := by
  simp only [results, h]
  simp [Sem.run_bind, Result.andThen]
def OneQ (w : World) (e : Ending) (w' : World) : Prop := ∃ a b c d h l : Int, e = .returned (.agg #[.int .i64 a, .int .i64 b, .int .i64 c, .int .i64 d, .int .i64 h, .int .i64 l]) ∧ Below w.heap.size w w'
def TextQ (w : World) (e : Ending) (w' : World) : Prop := ∃ t : ByteArray, e = .returned (.string t) ∧ t.size ≤ 300 ∧ Below w.heap.size w w'
def HitQ (w : World) (e : Ending) (w' : World) : Prop := ∃ v k zs i x y, e = .returned (.tuple #[v, .int .i64 i, .agg #[.int .i64 x, .int .i64 y]]) ∧ w'.ownsRow w.heap.size 25 6 v k (cellsI zs) ∧ k ≤ 9 ∧ Below w.heap.size w w'
def StartQ (w : World) (e : Ending) (w' : World) : Prop := ∃ v k zs x y, e = .returned (.tuple #[v, .agg #[.int .i64 x, .int .i64 y]]) ∧ w'.ownsRow w.heap.size 25 6 v k (cellsI zs) ∧ k ≤ 9 ∧ Below w.heap.size w w'
set_option maxRecDepth 100000 in
set_option maxHeartbeats 4000000 in
theorem validTrack (A : Option Addr) (n c0 : Nat) (w : World) (hn : n ≤ 65536) (h : Bytes w w.heap.size A n) :
    Calls Tryz.prog 30 #[.slice A n c0] w (OneQ w) := by
  have R0 := Lib.hid ((newS 25 #[.int .i64 0, .int .i64 0, .int .i64 0, .int .i64 0, .int .i64 0, .int .i64 0] w).alloc (.cells #[.slice A n c0, .int .i64 0, .int .u64 0] 70))
  have hc := new_cur c0 (by omega) (bytes_al (.cells #[.int .i64 0, .int .i64 0, .int .i64 0, .int .i64 0, .int .i64 0, .int .i64 0] 25) h)
  rw [World.size_alloc] at hc
  have HC0 := Lib.hid hc
  clear h hc
  go_enter Tryz.func30, Tryz.ntmps30
  go_wp2_with fail
  generalize (w.alloc (.cells #[.int .i64 0, .int .i64 0, .int .i64 0, .int .i64 0, .int .i64 0, .int .i64 0] 25)).alloc (.cells #[.slice A n c0, .int .i64 0, .int .u64 0] 70) = W1 at *
  refine (track _ 0 W1 HC0.out (by omega)).mono ?_
  rintro e w2 ⟨a, b, c, d, h, l, rfl, hc, hg⟩
  have R1 := Lib.hid (at_grown R0.out hg (by omega) (by omega))
  clear hc hg R0 HC0
  have r0_ : w2.cell? ⟨w.heap.size, 0, none⟩ = some (.int .i64 0) := R1.out.cell 0
  have rf0_ := R1.out.frozen 0
  have r1_ : w2.cell? ⟨w.heap.size, 1, none⟩ = some (.int .i64 0) := R1.out.cell 1
  have rf1_ := R1.out.frozen 1
  have r2_ : w2.cell? ⟨w.heap.size, 2, none⟩ = some (.int .i64 0) := R1.out.cell 2
  have rf2_ := R1.out.frozen 2
  have r3_ : w2.cell? ⟨w.heap.size, 3, none⟩ = some (.int .i64 0) := R1.out.cell 3
  have rf3_ := R1.out.frozen 3
  have r4_ : w2.cell? ⟨w.heap.size, 4, none⟩ = some (.int .i64 0) := R1.out.cell 4
  have rf4_ := R1.out.frozen 4
  have r5_ : w2.cell? ⟨w.heap.size, 5, none⟩ = some (.int .i64 0) := R1.out.cell 5
  have rf5_ := R1.out.frozen 5
  have HE := Lib.hid ((((((R1.out.set 0 (.int .i64 a)).set 1 (.int .i64 b)).set 2 (.int .i64 c)).set 3 (.int .i64 d)).set 4 (.int .i64 h)).set 5 (.int .i64 l))
  go_wp2_with fail
  have hl := HE.out.load Tryz.underlying25 rfl (by kernel_rfl)
  refine bodyPost_ret (v := .agg #[.int .i64 a, .int .i64 b, .int .i64 c, .int .i64 d, .int .i64 h, .int .i64 l]) ?_ rfl ⟨_, _, _, _, _, _, rfl, HE.out.1⟩
  rw [results_cell1 rfl]
  simp [asAddr, Result.andThen, hl]
set_option maxRecDepth 100000 in
set_option maxHeartbeats 4000000 in
theorem trackLine (A : Option Addr) (n c0 : Nat) (w : World) (hn : n ≤ 65536) (h : Bytes w w.heap.size A n) :
    Calls Tryz.prog 6 #[.slice A n c0] w (OneQ w) := by
  have R0 := Lib.hid (newS 25 #[.int .i64 0, .int .i64 0, .int .i64 0, .int .i64 0, .int .i64 0, .int .i64 0] w)
  have HB := Lib.hid (bytes_al (.cells #[.int .i64 0, .int .i64 0, .int .i64 0, .int .i64 0, .int .i64 0, .int .i64 0] 25) h)
  clear h
  go_enter Tryz.func6, Tryz.ntmps6
  go_wp2_with fail
  generalize w.alloc (.cells #[.int .i64 0, .int .i64 0, .int .i64 0, .int .i64 0, .int .i64 0, .int .i64 0] 25) = W1 at *
  refine (validTrack A n c0 W1 hn HB.out).mono ?_
  rintro e w2 ⟨a, b, c, d, h, l, rfl, hb⟩
  have R1 := Lib.hid (R0.out.old hb)
  clear hb R0 HB
  have r0_ : w2.cell? ⟨w.heap.size, 0, none⟩ = some (.int .i64 0) := R1.out.cell 0
  have rf0_ := R1.out.frozen 0
  have r1_ : w2.cell? ⟨w.heap.size, 1, none⟩ = some (.int .i64 0) := R1.out.cell 1
  have rf1_ := R1.out.frozen 1
  have r2_ : w2.cell? ⟨w.heap.size, 2, none⟩ = some (.int .i64 0) := R1.out.cell 2
  have rf2_ := R1.out.frozen 2
  have r3_ : w2.cell? ⟨w.heap.size, 3, none⟩ = some (.int .i64 0) := R1.out.cell 3
  have rf3_ := R1.out.frozen 3
  have r4_ : w2.cell? ⟨w.heap.size, 4, none⟩ = some (.int .i64 0) := R1.out.cell 4
  have rf4_ := R1.out.frozen 4
  have r5_ : w2.cell? ⟨w.heap.size, 5, none⟩ = some (.int .i64 0) := R1.out.cell 5
  have rf5_ := R1.out.frozen 5
  have HE := Lib.hid ((((((R1.out.set 0 (.int .i64 a)).set 1 (.int .i64 b)).set 2 (.int .i64 c)).set 3 (.int .i64 d)).set 4 (.int .i64 h)).set 5 (.int .i64 l))
  go_wp2_with fail
  have hl := HE.out.load Tryz.underlying25 rfl (by kernel_rfl)
  refine bodyPost_ret (v := .agg #[.int .i64 a, .int .i64 b, .int .i64 c, .int .i64 d, .int .i64 h, .int .i64 l]) ?_ rfl ⟨_, _, _, _, _, _, rfl, HE.out.1⟩
  rw [results_cell1 rfl]
  simp [asAddr, Result.andThen, hl]
set_option maxRecDepth 100000 in
set_option maxHeartbeats 4000000 in
theorem parseTrackLine (A : Option Addr) (n c0 : Nat) (w : World) (hn : n ≤ 65536) (h : Bytes w w.heap.size A n) :
    Calls Tryz.prog 11 #[.slice A n c0] w (TextQ w) := by
  have HC0 := Lib.hid (new_cur c0 (by omega) h)
  have B0 := Lib.hid ((newS 70 #[.slice A n c0, .int .i64 0, .int .u64 0] w).1)
  clear h
  go_enter Tryz.func11, Tryz.ntmps11
  go_wp2_with fail
  generalize w.alloc (.cells #[.slice A n c0, .int .i64 0, .int .u64 0] 70) = W0 at *
  refine (track _ 0 W0 HC0.out (by omega)).mono ?_
  rintro e w1 ⟨a, b, c, d, h, l, rfl, hc, hg⟩
  have hpq : w.heap.size < w1.heap.size := hc.lt
  have HX := Lib.hid (plce.at_next 25 #[.int .i64 a, .int .i64 b, .int .i64 c, .int .i64 d, .int .i64 h, .int .i64 l] (below_of_grown B0.out hg))
  have HC1 := Lib.hid (Cur.alloc hc (.cells #[.int .i64 a, .int .i64 b, .int .i64 c, .int .i64 d, .int .i64 h, .int .i64 l] 25))
  clear hc hg B0 HC0
  go_upto_region 3 with fail
  generalize w1.alloc (.cells #[.int .i64 a, .int .i64 b, .int .i64 c, .int .i64 d, .int .i64 h, .int .i64 l] 25) = W1 at *
  generalize w1.heap.size = q at *
  have r0_ : W1.cell? ⟨q, 0, none⟩ = some (.int .i64 a) := HX.out.cell 0
  have r1_ : W1.cell? ⟨q, 1, none⟩ = some (.int .i64 b) := HX.out.cell 1
  have r2_ : W1.cell? ⟨q, 2, none⟩ = some (.int .i64 c) := HX.out.cell 2
  have r3_ : W1.cell? ⟨q, 3, none⟩ = some (.int .i64 d) := HX.out.cell 3
  have r4_ : W1.cell? ⟨q, 4, none⟩ = some (.int .i64 h) := HX.out.cell 4
  have r5_ : W1.cell? ⟨q, 5, none⟩ = some (.int .i64 l) := HX.out.cell 5
  go_wp2_with fail
  refine (trks.good14 a b c d h l W1).mono ?_
  rintro e W2 ⟨rfl, hb⟩
  clear r0_ r1_ r2_ r3_ r4_ r5_
  have HX2 := Lib.hid (HX.out.old hb)
  have HC2 := Lib.hid (Go.Proofs.YtfigjfckelichaaGreatDoor.atc.Cur.below HC1.out hb)
  clear hb HX HC1
  cases hv : tkB a b c d h l
  · have r0_ : W2.cell? ⟨q, 0, none⟩ = some (.int .i64 a) := HX2.out.cell 0
    have rf0_ := HX2.out.frozen 0
    have r1_ : W2.cell? ⟨q, 1, none⟩ = some (.int .i64 b) := HX2.out.cell 1
    have rf1_ := HX2.out.frozen 1
    have r2_ : W2.cell? ⟨q, 2, none⟩ = some (.int .i64 c) := HX2.out.cell 2
    have rf2_ := HX2.out.frozen 2
    have r3_ : W2.cell? ⟨q, 3, none⟩ = some (.int .i64 d) := HX2.out.cell 3
    have rf3_ := HX2.out.frozen 3
    have r4_ : W2.cell? ⟨q, 4, none⟩ = some (.int .i64 h) := HX2.out.cell 4
    have rf4_ := HX2.out.frozen 4
    have r5_ : W2.cell? ⟨q, 5, none⟩ = some (.int .i64 l) := HX2.out.cell 5
    have rf5_ := HX2.out.frozen 5
    have HX3 := Lib.hid ((((((HX2.out.set 0 (.int .i64 5)).set 1 (.int .i64 3)).set 2 (.int .i64 0)).set 3 (.int .i64 0)).set 4 (.int .i64 4)).set 5 (.int .i64 2))
    have HC3 := Lib.hid (Cur.set (Cur.set (Cur.set (Cur.set (Cur.set (Cur.set HC2.out hpq (i := 0) (v := .int .i64 5)) hpq (i := 1) (v := .int .i64 3)) hpq (i := 2) (v := .int .i64 0)) hpq (i := 3) (v := .int .i64 0)) hpq (i := 4) (v := .int .i64 4)) hpq (i := 5) (v := .int .i64 2))
    clear HX2 HC2
    go_upto_region 5 with fail
    clear r0_ r1_ r2_ r3_ r4_ r5_ rf0_ rf1_ rf2_ rf3_ rf4_ rf5_
    generalize ((((((W2.setCell ⟨q, 0, none⟩ (.int .i64 5)).setCell ⟨q, 1, none⟩ (.int .i64 3)).setCell ⟨q, 2, none⟩ (.int .i64 0)).setCell ⟨q, 3, none⟩ (.int .i64 0)).setCell ⟨q, 4, none⟩ (.int .i64 4)).setCell ⟨q, 5, none⟩ (.int .i64 2)) = W3 at *
    have s0_ : W3.cell? ⟨q, 0, none⟩ = some (.int .i64 5) := HX3.out.cell 0
    have s1_ : W3.cell? ⟨q, 1, none⟩ = some (.int .i64 3) := HX3.out.cell 1
    have s2_ : W3.cell? ⟨q, 2, none⟩ = some (.int .i64 0) := HX3.out.cell 2
    have s3_ : W3.cell? ⟨q, 3, none⟩ = some (.int .i64 0) := HX3.out.cell 3
    have s4_ : W3.cell? ⟨q, 4, none⟩ = some (.int .i64 4) := HX3.out.cell 4
    have s5_ : W3.cell? ⟨q, 5, none⟩ = some (.int .i64 2) := HX3.out.cell 5
    go_wp2_with fail
    clear s0_ s1_ s2_ s3_ s4_ s5_
    refine (trkq.line14 5 3 0 0 4 2 W3 (by decide) (by omega)).mono ?_
    rintro e W4 ⟨rfl, hb⟩
    have HX4 := Lib.hid (HX3.out.1.trans (hb.mono HX3.out.1.size))
    have HC4 := Lib.hid (Go.Proofs.YtfigjfckelichaaGreatDoor.atc.Cur.below HC3.out hb)
    have hts := tl_size (show tkB 5 (3 : Nat) 0 0 4 2 = true by decide)
    clear hb HX3 HC3
    generalize tlT _ _ _ _ _ _ = t at *
    go_wp2_with fail
    refine (one _ _ 4 W4 HC4.out (by omega) (by omega) (by omega)).mono ?_
    rintro e W5 ⟨z, rfl, hc, hg⟩
    have B5 := Lib.hid (below_of_grown HX4.out hg)
    have HC5 := Lib.hid hc
    clear hc hg HX4 HC4
    cases z
    · go_wp2_with fail
      go_ret
      exact ⟨t, rfl, by omega, B5.out⟩
    · go_wp2_with fail
      refine (spoilt _ _ t ⟨#[49, 32, 44, 104, 110]⟩ W5 HC5.out (by omega) (by omega) (by decide) (by decide)).mono ?_
      rintro e W6 ⟨u, rfl, hu, hc, hg⟩
      have B6 := Lib.hid (below_of_grown B5.out hg)
      clear hc hg B5 HC5
      go_wp2_with fail
      go_ret
      exact ⟨u, rfl, by omega, B6.out⟩
  · obtain ⟨k, rfl, k1, k3⟩ := sw_is hv
    have HX3 := HX2
    have HC3 := HC2
    clear HX2 HC2
    have r0_ : W2.cell? ⟨q, 0, none⟩ = some (.int .i64 a) := HX3.out.cell 0
    have r1_ : W2.cell? ⟨q, 1, none⟩ = some (.int .i64 (k : Int)) := HX3.out.cell 1
    have r2_ : W2.cell? ⟨q, 2, none⟩ = some (.int .i64 c) := HX3.out.cell 2
    have r3_ : W2.cell? ⟨q, 3, none⟩ = some (.int .i64 d) := HX3.out.cell 3
    have r4_ : W2.cell? ⟨q, 4, none⟩ = some (.int .i64 h) := HX3.out.cell 4
    have r5_ : W2.cell? ⟨q, 5, none⟩ = some (.int .i64 l) := HX3.out.cell 5
    go_wp2_with fail
    clear r0_ r1_ r2_ r3_ r4_ r5_
    refine (trkq.line14 a k c d h l W2 hv k3).mono ?_
    rintro e W4 ⟨rfl, hb⟩
    have HX4 := Lib.hid (HX3.out.1.trans (hb.mono HX3.out.1.size))
    have HC4 := Lib.hid (Go.Proofs.YtfigjfckelichaaGreatDoor.atc.Cur.below HC3.out hb)
    have hts := tl_size hv
    clear hb HX3 HC3
    generalize tlT _ _ _ _ _ _ = t at *
    go_wp2_with fail
    refine (one _ _ 4 W4 HC4.out (by omega) (by omega) (by omega)).mono ?_
    rintro e W5 ⟨z, rfl, hc, hg⟩
    have B5 := Lib.hid (below_of_grown HX4.out hg)
    have HC5 := Lib.hid hc
    clear hc hg HX4 HC4
    cases z
    · go_wp2_with fail
      go_ret
      exact ⟨t, rfl, by omega, B5.out⟩
    · go_wp2_with fail
      refine (spoilt _ _ t ⟨#[49, 32, 44, 104, 110]⟩ W5 HC5.out (by omega) (by omega) (by decide) (by decide)).mono ?_
      rintro e W6 ⟨u, rfl, hu, hc, hg⟩
      have B6 := Lib.hid (below_of_grown B5.out hg)
      clear hc hg B5 HC5
      go_wp2_with fail
      go_ret
      exact ⟨u, rfl, by omega, B6.out⟩
set_option maxRecDepth 100000 in
set_option maxHeartbeats 4000000 in
theorem hitTrack (A : Option Addr) (n c0 : Nat) (w : World) (hn : n ≤ 65536) (h : Bytes w w.heap.size A n) :
    Calls Tryz.prog 12 #[.slice A n c0] w (HitQ w) := by
  have Q0 := Lib.hid ((newS 35 #[.int .i64 0, .int .i64 0] w).alloc (.cells #[.slice A n c0, .int .i64 0, .int .u64 0] 70))
  have hc := new_cur c0 (by omega) (bytes_al (.cells #[.int .i64 0, .int .i64 0] 35) h)
  have HZ := Lib.hid (show ((w.alloc (.cells #[.int .i64 0, .int .i64 0] 35)).alloc (.cells #[.slice A n c0, .int .i64 0, .int .u64 0] 70)).heap.size = w.heap.size + 1 + 1 from by rw [World.size_alloc, World.size_alloc])
  rw [World.size_alloc] at hc
  have HC0 := Lib.hid hc
  clear h hc
  go_enter Tryz.func12, Tryz.ntmps12
  go_wp2_with fail
  generalize (w.alloc (.cells #[.int .i64 0, .int .i64 0] 35)).alloc (.cells #[.slice A n c0, .int .i64 0, .int .u64 0] 70) = W0 at *
  refine (tracks _ 0 W0 HC0.out (by omega)).mono ?_
  rintro e w1 ⟨v, k, zs, rfl, ho, hk, hc, hg⟩
  obtain ⟨A1, c1, rfl⟩ := own_sliceZ ho
  have Q1 := Lib.hid (at_grown Q0.out hg (by omega) (by omega))
  have L1 := Lib.hid ho
  have C1 := Lib.hid hc
  clear ho hc hg Q0 HC0
  go_wp2_with fail
  refine (idIn zs A1 k c1 W0.heap.size _ _ w1 C1.out (by omega) hk (by rw [HZ.out]; omega) L1.out).mono ?_
  rintro e w2 ⟨i, rfl, hc, hg⟩
  have Q2 := Lib.hid (at_grown Q1.out hg (by omega) (by omega))
  have L2 := Lib.hid (own_kept L1.out hg (fun g e => by cases e; rw [HZ.out]; omega))
  have C2 := Lib.hid hc
  clear hc hg Q1 L1 C1
  go_wp2_with fail
  refine (drawp7.anyPlace _ _ w2 C2.out (by omega)).mono ?_
  rintro e w3 ⟨x, y, rfl, -, hc, hg⟩
  have Q3 := Lib.hid (at_grown Q2.out hg (by omega) (by omega))
  have L3 := Lib.hid (own_kept L2.out hg (fun g e => by cases e; rw [HZ.out]; omega))
  clear hc hg Q2 L2 C2
  have q0_ : w3.cell? ⟨w.heap.size, 0, none⟩ = some (.int .i64 0) := Q3.out.cell 0
  have qf0_ := Q3.out.frozen 0
  have q1_ : w3.cell? ⟨w.heap.size, 1, none⟩ = some (.int .i64 0) := Q3.out.cell 1
  have qf1_ := Q3.out.frozen 1
  have HE := Lib.hid ((Q3.out.set 0 (.int .i64 x)).set 1 (.int .i64 y))
  have HL := Lib.hid (own_setbox (own_setbox L3.out (b := w.heap.size) (by rw [HZ.out]; omega) 0 (.int .i64 x)) (b := w.heap.size) (by rw [HZ.out]; omega) 1 (.int .i64 y))
  go_wp2_with fail
  have hl := HE.out.load Tryz.underlying35 rfl (by kernel_rfl)
  refine bodyPost_ret (v := .tuple #[.slice A1 k c1, .int .i64 i, .agg #[.int .i64 x, .int .i64 y]]) ?_ rfl ⟨_, k, zs, i, x, y, rfl, own_.own_base HL.out (by rw [HZ.out]; omega), hk, HE.out.1⟩
  rw [results_ttc rfl]
  simp [asAddr, Result.andThen, hl]
set_option maxRecDepth 100000 in
set_option maxHeartbeats 4000000 in
theorem startTrack (A : Option Addr) (n c0 : Nat) (w : World) (hn : n ≤ 65536) (h : Bytes w w.heap.size A n) :
    Calls Tryz.prog 16 #[.slice A n c0] w (StartQ w) := by
  have Q0 := Lib.hid ((newS 35 #[.int .i64 0, .int .i64 0] w).alloc (.cells #[.slice A n c0, .int .i64 0, .int .u64 0] 70))
  have hc := new_cur c0 (by omega) (bytes_al (.cells #[.int .i64 0, .int .i64 0] 35) h)
  have HZ := Lib.hid (show ((w.alloc (.cells #[.int .i64 0, .int .i64 0] 35)).alloc (.cells #[.slice A n c0, .int .i64 0, .int .u64 0] 70)).heap.size = w.heap.size + 1 + 1 from by rw [World.size_alloc, World.size_alloc])
  rw [World.size_alloc] at hc
  have HC0 := Lib.hid hc
  clear h hc
  go_enter Tryz.func16, Tryz.ntmps16
  go_wp2_with fail
  generalize (w.alloc (.cells #[.int .i64 0, .int .i64 0] 35)).alloc (.cells #[.slice A n c0, .int .i64 0, .int .u64 0] 70) = W0 at *
  refine (tracks _ 0 W0 HC0.out (by omega)).mono ?_
  rintro e w1 ⟨v, k, zs, rfl, ho, hk, hc, hg⟩
  obtain ⟨A1, c1, rfl⟩ := own_sliceZ ho
  have Q1 := Lib.hid (at_grown Q0.out hg (by omega) (by omega))
  have L1 := Lib.hid ho
  have C1 := Lib.hid hc
  clear ho hc hg Q0 HC0
  go_wp2_with fail
  refine (drawp7.anyPlace _ _ w1 C1.out (by omega)).mono ?_
  rintro e w2 ⟨x, y, rfl, -, hc, hg⟩
  have Q2 := Lib.hid (at_grown Q1.out hg (by omega) (by omega))
  have L2 := Lib.hid (own_kept L1.out hg (fun g e => by cases e; rw [HZ.out]; omega))
  clear hc hg Q1 L1 C1
  have q0_ : w2.cell? ⟨w.heap.size, 0, none⟩ = some (.int .i64 0) := Q2.out.cell 0
  have qf0_ := Q2.out.frozen 0
  have q1_ : w2.cell? ⟨w.heap.size, 1, none⟩ = some (.int .i64 0) := Q2.out.cell 1
  have qf1_ := Q2.out.frozen 1
  have HE := Lib.hid ((Q2.out.set 0 (.int .i64 x)).set 1 (.int .i64 y))
  have HL := Lib.hid (own_setbox (own_setbox L2.out (b := w.heap.size) (by rw [HZ.out]; omega) 0 (.int .i64 x)) (b := w.heap.size) (by rw [HZ.out]; omega) 1 (.int .i64 y))
  go_wp2_with fail
  have hl := HE.out.load Tryz.underlying35 rfl (by kernel_rfl)
  refine bodyPost_ret (v := .tuple #[.slice A1 k c1, .agg #[.int .i64 x, .int .i64 y]]) ?_ rfl ⟨_, k, zs, x, y, rfl, own_.own_base HL.out (by rw [HZ.out]; omega), hk, HE.out.1⟩
  rw [results_tc rfl]
  simp [asAddr, Result.andThen, hl]
end Go.Proofs.YtfigjfckelichaaGreatDoor.drawy14

namespace Go.Proofs.YtfigjfckelichaaGreatDoor.fnTracks
open Go.ChangeShapes Go.WideShapes Go.ChangeAt Go.RowKit
open Go.ChangeMaps (open_string shut_string)
open Go.Proofs.YtfigjfckelichaaGreatDoor.code_ Go.Proofs.YtfigjfckelichaaGreatDoor.cur Go.Proofs.YtfigjfckelichaaGreatDoor.ats Go.Proofs.YtfigjfckelichaaGreatDoor.lst Go.Proofs.YtfigjfckelichaaGreatDoor.ints Go.Proofs.YtfigjfckelichaaGreatDoor.trk Go.Proofs.YtfigjfckelichaaGreatDoor.trkm Go.Proofs.YtfigjfckelichaaGreatDoor.trkp Go.Proofs.YtfigjfckelichaaGreatDoor.trkr Go.Proofs.YtfigjfckelichaaGreatDoor.drawt14 Go.Proofs.YtfigjfckelichaaGreatDoor.drawu14
set_option linter.unusedVariables false

theorem bool_ne_self (b : Bool) : (b != b) = false := by simp
theorem int_ne_self (b : Int) : (b != b) = false := by simp
theorem bool_eq_self (b : Bool) : (b == b) = true := by simp
theorem int_eq_self (b : Int) : (b == b) = true := by simp
theorem own_cap {w : World} {B e s n : Nat} {v : Value} {xs : List Value} (h : w.ownsRow B e s v n xs) : ∃ A c, v = .slice A n c ∧ n ≤ c := by
  rcases h.2 with ⟨rfl, h0⟩ | ⟨g, cap, cur, rfl, _, _, hle, _⟩
  · exact ⟨_, _, by rw [h0], by omega⟩
  · exact ⟨_, _, rfl, hle⟩
theorem str_ne_self (x : ByteArray) : (!(x.toList == x.toList)) = false := by simp
theorem line_back {i s x y h l : Int} (hh : tkB i s x y h l = true) : ptB (tlV i s x y h l) = true ∧ pI (tlV i s x y h l) = i ∧ pS (tlV i s x y h l) = s ∧ pX (tlV i s x y h l) = x ∧ pY (tlV i s x y h l) = y ∧ pH (tlV i s x y h l) = h ∧ pL (tlV i s x y h l) = l := by
  have e : tlT i s x y h l = tlV i s x y h l := by unfold tlV; rw [hh]; rfl
  obtain ⟨h0, h1, h2, h3, h4, h5, h6⟩ := pt_text hh e
  obtain ⟨g1, g2, g3, g4, g5, g6⟩ := p_yes h0
  exact ⟨h0, g1.trans h1, g2.trans h2, g3.trans h3, g4.trans h4, g5.trans h5, g6.trans h6⟩
theorem line_again {t : ByteArray} (h : ptB t = true) : tkB (pI t) (pS t) (pX t) (pY t) (pH t) (pL t) = true ∧ tlV (pI t) (pS t) (pX t) (pY t) (pH t) (pL t) = t := by
  obtain ⟨g1, g2, g3, g4, g5, g6⟩ := p_yes h
  obtain ⟨h1, h2⟩ := pt_yes h
  rw [g1, g2, g3, g4, g5, g6]
  refine ⟨h1, ?_⟩
  unfold tlV
  rw [if_pos h1]
  exact h2
theorem tlV_size (i s x y h l : Int) : (tlV i s x y h l).size ≤ 200 := by
  unfold tlV
  split
  · rename_i hh; exact drawy14.tl_size hh
  · exact Nat.zero_le _
theorem ch_at {c : Nat → Option (List Int)} {n i : Nat} {r : List Int} (hf : Fits c n) (hb : chB c n = true) (hi : i < n) (hr : c i = some r) (h6 : r.length = 6) : ∀ k, i < k → k ≤ n → chN c i < chN c k ∧ ∀ j, j < 6 → fld 6 (chL c k) (chN c i) j = r.getD j 0 := by
  have hlen : ∀ k, k ≤ n → (chL c k).length = chN c k * 6 := fun k hk => chL_length (fun q hq => hf q (by omega)) (chB_of fun q hq => chB_at hb (by omega))
  intro k
  induction k with
  | zero => intro h; omega
  | succ k ih =>
    intro hik hk
    rcases Nat.lt_or_ge i k with h | h
    · obtain ⟨h1, h2⟩ := ih h (by omega)
      refine ⟨by rw [chN]; omega, fun j hj => ?_⟩
      rw [chL, fld_old (hlen k (by omega)) h1 hj]
      exact h2 j hj
    · obtain rfl : k = i := by omega
      have hne : ¬ c k = some [] := fun e => by rw [hr] at e; injection e with e; rw [e] at h6; cases h6
      refine ⟨by rw [chN, if_neg hne]; omega, fun j hj => ?_⟩
      rw [chL, hr, fld_new (hlen k (by omega)) hj]; rfl
theorem hi_at {zs : List Int} {n q : Nat} {d x y : Int} (hq : q < hiN zs n d x y) (he : fld 6 (hiL zs n d x y) q 0 = d) :
    q < n ∧ fld 6 (hiL zs n d x y) q 2 = x ∧ fld 6 (hiL zs n d x y) q 3 = y ∧ fld 6 (hiL zs n d x y) q 5 = 0 ∧ fld 6 (hiL zs n d x y) q 4 = fld 6 zs q 4 + 1 ∧ 1 ≤ fld 6 zs q 4 ∧ fld 6 zs q 4 ≤ 9999 := by
  cases h : hiB zs n d x y
  · rw [(hi_no h).2] at hq
    omega
  · rw [(hi_yes h).2] at hq
    rw [(hi_yes h).1] at he ⊢
    have h0 := h
    unfold hiB at h0
    rw [Bool.and_eq_true, Bool.and_eq_true] at h0
    obtain ⟨⟨hz, -⟩, hc⟩ := h0
    have hN : chN (hitOne zs d x y) q = q := hitOne_N (chB_of fun j hj => chB_at hc (by omega))
    obtain ⟨r, hr⟩ := Option.isSome_iff_exists.1 (chB_at hc hq)
    have h6 : r.length = 6 := by
      unfold hitOne at hr
      split at hr
      · exact fits_hit hr
      · injection hr with hr; subst hr; rfl
    obtain ⟨-, c2⟩ := ch_at (fits_hitOne zs d x y n) hc hq hr h6 n hq (Nat.le_refl _)
    rw [hN] at c2
    rw [c2 0 (by omega)] at he
    rw [c2 2 (by omega), c2 3 (by omega), c2 4 (by omega), c2 5 (by omega)]
    have hv : tkB _ _ _ _ _ _ = true := tv_at hz hq
    have hb := (tkB_yes hv).2.2.1
    by_cases e0 : fld 6 zs q 0 = d
    · unfold hitOne at hr
      rw [if_pos e0] at hr
      unfold hitC at hr
      split at hr
      · injection hr with hr
        subst hr
        exact ⟨hq, rfl, rfl, rfl, rfl, hb.1, hb.2⟩
      · cases hr
    · unfold hitOne at hr
      rw [if_neg e0] at hr
      injection hr with hr
      subst hr
      exact absurd he e0
theorem st_fine {zs : List Int} {n : Nat} {x y : Int} (h : stB zs n x y = true) : stN zs n x y = n + 1 ∧ tvB (stL zs n x y) (stN zs n x y) = true := ⟨(st_yes h).2.1, by rw [(st_yes h).1, (st_yes h).2.1]; exact h⟩
theorem at_s {s : Nat} {w : World} {B n k : Nat} {b o : Nat} {zs : List Int} (h : RdZ s w B (some ⟨b, o, none⟩) n zs) (hk : k < n) (j : Nat) (hj : j < s) : w.cell? ⟨b, o + (k * s + j), none⟩ = some (.int .i64 (fld s zs k j)) := by
  obtain ⟨b', o', e, -, hc⟩ := h.at_ hk
  injection e with e
  injection e with e1 e2
  subst e1
  subst e2
  exact hc j hj
theorem some_z {s : Nat} {w : World} {B n : Nat} {A : Option Addr} {zs : List Int} (h : RdZ s w B A n zs) (hn : 0 < n) : ∃ b o, A = some ⟨b, o, none⟩ := by
  obtain ⟨b, o, e, -⟩ := h.2 hn
  exact ⟨b, o, e⟩

set_option maxRecDepth 100000 in
set_option maxHeartbeats 16000000 in
theorem walk (A : Option Addr) (n c : Nat) (z : List Int) (w : World) (w0 : IsRow .u8 w A n c z) (hlx : ert.LY w) :
    Calls Tryz.prog 3 #[.slice A n c] w fun e w' => e = .returned (.bool true) ∧ Below w.heap.size w w' := by
  obtain ⟨hby, hnc, -⟩ := bytes_of w0
  clear w0
  have HX := Lib.hid hlx
  clear hlx
  have hv := Lib.hid (fun w => vBig A n c w)
  by_cases hbig : (65536 : Int) < (n : Int)
  · clear hby
    go_enter Tryz.func3, Tryz.ntmps3
    go_wp2_with fail
    refine (hv.out _).mono ?_
    rintro e w1 ⟨rfl, rfl⟩
    go_wp2_with fail
    go_ret
    exact ⟨rfl, Below.refl _ _⟩
  have hd : decide ((65536 : Int) < (n : Int)) = false := by simpa using hbig
  have hn : n ≤ 65536 := by omega
  have H := Lib.hid hby
  clear hby hbig hnc
  go_enter Tryz.func3, Tryz.ntmps3
  go_wp2_with fail
  refine (hv.out _).mono ?_
  rintro e wx ⟨rfl, rfl⟩
  clear hd hv
  have HB0 := Lib.hid (Below.refl w.heap.size w)
  go_wp2_with fail
  refine (drawy14.trackLine A n c w hn (Bytes_below H.out HB0.out)).mono ?_
  rintro e V1 ⟨a1, b1, c1, d1, h1, l1, rfl, h2⟩
  have HB3 := Lib.hid (HB0.out.trans (h2.mono HB0.out.size))
  clear HB0
  clear h2
  have BX4 := Lib.hid (plce.at_next 25 #[.int .i64 a1, .int .i64 b1, .int .i64 c1, .int .i64 d1, .int .i64 h1, .int .i64 l1] HB3.out)
  clear HB3
  have HBn := Lib.hid BX4.out.1
  have HB5 := HBn
  clear HBn
  go_upto_region 4 with fail
  generalize (V1.alloc (.cells #[.int .i64 a1, .int .i64 b1, .int .i64 c1, .int .i64 d1, .int .i64 h1, .int .i64 l1] 25)) = W3 at *
  have CI := Lib.hid (fun W (hx : ert.LY W) => trkp.trackLineI a1 b1 c1 d1 h1 l1 W hx.1 hx.2.1)
  have CS := Lib.hid (fun W => trkq.trackLineS a1 b1 c1 d1 h1 l1 W)
  have CV := Lib.hid (fun W => trkv.isValidTrack a1 b1 c1 d1 h1 l1 W)
  have CP := Lib.hid (fun W (hx : ert.LY W) => trka.parseTrackLineI (tlV a1 b1 c1 d1 h1 l1) W (Nat.le_trans (tlV_size a1 b1 c1 d1 h1 l1) (by omega)) hx.1 hx.2.1 hx.2.2.2)
  have F1 := Lib.hid (fun (h : tkB a1 b1 c1 d1 h1 l1 = true) => line_back h)
  generalize tlV a1 b1 c1 d1 h1 l1 = v1 at *
  generalize tkB a1 b1 c1 d1 h1 l1 = o1 at *
  generalize ptB v1 = o2 at *
  generalize pI v1 = i1 at *
  generalize pS v1 = s1 at *
  generalize pX v1 = x1 at *
  generalize pY v1 = y1 at *
  generalize pH v1 = g1 at *
  generalize pL v1 = k1 at *
  have n1 := str_ne_self v1
  have n2 := bool_ne_self o1
  have K6 := CI.out W3 (ert.ly_on HX.out HB5.out)
  have K6 := Lib.hid K6
  have kt0_ : W3.cell? ⟨V1.heap.size, 0, none⟩ = some (.int .i64 a1) := BX4.out.cell 0
  have kt1_ : W3.cell? ⟨V1.heap.size, 1, none⟩ = some (.int .i64 b1) := BX4.out.cell 1
  have kt2_ : W3.cell? ⟨V1.heap.size, 2, none⟩ = some (.int .i64 c1) := BX4.out.cell 2
  have kt3_ : W3.cell? ⟨V1.heap.size, 3, none⟩ = some (.int .i64 d1) := BX4.out.cell 3
  have kt4_ : W3.cell? ⟨V1.heap.size, 4, none⟩ = some (.int .i64 h1) := BX4.out.cell 4
  have kt5_ : W3.cell? ⟨V1.heap.size, 5, none⟩ = some (.int .i64 l1) := BX4.out.cell 5
  go_wp2_with fail
  clear kt0_ kt1_ kt2_ kt3_ kt4_ kt5_
  refine ((fun _ => K6.out) W3).mono ?_
  rintro e V7 ⟨rfl, h8⟩
  have HB9 := Lib.hid (HB5.out.trans (h8.mono HB5.out.size))
  clear HB5
  have BX10 := Lib.hid (BX4.out.old h8)
  clear BX4
  clear h8
  clear K6
  clear CI
  have K11 := CP.out V7 (ert.ly_on HX.out HB9.out)
  have K11 := Lib.hid K11
  go_wp2_with fail
  refine ((fun _ => K11.out) V7).mono ?_
  rintro e V12 ⟨rfl, h13⟩
  have HB14 := Lib.hid (HB9.out.trans (h13.mono HB9.out.size))
  clear HB9
  have BX15 := Lib.hid (BX10.out.old h13)
  clear BX10
  clear h13
  clear K11
  clear CP
  have BX16 := Lib.hid (plce.at_next 25 #[.int .i64 i1, .int .i64 s1, .int .i64 x1, .int .i64 y1, .int .i64 g1, .int .i64 k1] HB14.out)
  have BX17 := Lib.hid (BX15.out.alloc (.cells #[.int .i64 i1, .int .i64 s1, .int .i64 x1, .int .i64 y1, .int .i64 g1, .int .i64 k1] 25))
  clear BX15
  clear HB14
  have HBn := Lib.hid BX16.out.1
  have HB18 := HBn
  clear HBn
  go_upto_region 6 with fail
  generalize (V12.alloc (.cells #[.int .i64 i1, .int .i64 s1, .int .i64 x1, .int .i64 y1, .int .i64 g1, .int .i64 k1] 25)) = W5 at *
  have kt0_ : W5.cell? ⟨V1.heap.size, 0, none⟩ = some (.int .i64 a1) := BX17.out.cell 0
  have kt1_ : W5.cell? ⟨V1.heap.size, 1, none⟩ = some (.int .i64 b1) := BX17.out.cell 1
  have kt2_ : W5.cell? ⟨V1.heap.size, 2, none⟩ = some (.int .i64 c1) := BX17.out.cell 2
  have kt3_ : W5.cell? ⟨V1.heap.size, 3, none⟩ = some (.int .i64 d1) := BX17.out.cell 3
  have kt4_ : W5.cell? ⟨V1.heap.size, 4, none⟩ = some (.int .i64 h1) := BX17.out.cell 4
  have kt5_ : W5.cell? ⟨V1.heap.size, 5, none⟩ = some (.int .i64 l1) := BX17.out.cell 5
  go_wp2_with fail
  clear kt0_ kt1_ kt2_ kt3_ kt4_ kt5_
  refine (CS.out W5).mono ?_
  rintro e V19 ⟨rfl, h20⟩
  have HB21 := Lib.hid (HB18.out.trans (h20.mono HB18.out.size))
  clear HB18
  have BX22 := Lib.hid (BX17.out.old h20)
  clear BX17
  have BX23 := Lib.hid (BX16.out.old h20)
  clear BX16
  clear h20
  clear CS
  go_upto_region 7 with fail
  go_cut [75] from 50 to 75 (fun s wz => s = .bool false ∧ Below V19.heap.size V19 wz)
  case first =>
    cases o1
    · skip
      have kt0_ : V19.cell? ⟨V1.heap.size, 0, none⟩ = some (.int .i64 a1) := BX22.out.cell 0
      have kt1_ : V19.cell? ⟨V1.heap.size, 1, none⟩ = some (.int .i64 b1) := BX22.out.cell 1
      have kt2_ : V19.cell? ⟨V1.heap.size, 2, none⟩ = some (.int .i64 c1) := BX22.out.cell 2
      have kt3_ : V19.cell? ⟨V1.heap.size, 3, none⟩ = some (.int .i64 d1) := BX22.out.cell 3
      have kt4_ : V19.cell? ⟨V1.heap.size, 4, none⟩ = some (.int .i64 h1) := BX22.out.cell 4
      have kt5_ : V19.cell? ⟨V1.heap.size, 5, none⟩ = some (.int .i64 l1) := BX22.out.cell 5
      go_wp2_with fail
      clear kt0_ kt1_ kt2_ kt3_ kt4_ kt5_
      refine (CV.out V19).mono ?_
      rintro e wp ⟨rfl, hp⟩
      have HP := Lib.hid hp
      clear hp
      go_wp2_with fail
      go_meet
      exact ⟨rfl, HP.out⟩
    · skip
      obtain ⟨q0, q1, q2, q3, q4, q5, q6⟩ := F1.out (by trivial)
      subst q0
      subst q1
      subst q2
      subst q3
      subst q4
      subst q5
      subst q6
      have kt0_ : V19.cell? ⟨V1.heap.size, 0, none⟩ = some (.int .i64 i1) := BX22.out.cell 0
      have kt1_ : V19.cell? ⟨V1.heap.size, 1, none⟩ = some (.int .i64 s1) := BX22.out.cell 1
      have kt2_ : V19.cell? ⟨V1.heap.size, 2, none⟩ = some (.int .i64 x1) := BX22.out.cell 2
      have kt3_ : V19.cell? ⟨V1.heap.size, 3, none⟩ = some (.int .i64 y1) := BX22.out.cell 3
      have kt4_ : V19.cell? ⟨V1.heap.size, 4, none⟩ = some (.int .i64 g1) := BX22.out.cell 4
      have kt5_ : V19.cell? ⟨V1.heap.size, 5, none⟩ = some (.int .i64 k1) := BX22.out.cell 5
      go_wp2_with fail
      clear kt0_ kt1_ kt2_ kt3_ kt4_ kt5_
      refine (CV.out V19).mono ?_
      rintro e wp ⟨rfl, hp⟩
      have HP := Lib.hid hp
      clear hp
      have kt0_ : wp.cell? ⟨V1.heap.size, 0, none⟩ = some (.int .i64 i1) := (BX22.out.old HP.out).cell 0
      have kt1_ : wp.cell? ⟨V1.heap.size, 1, none⟩ = some (.int .i64 s1) := (BX22.out.old HP.out).cell 1
      have kt2_ : wp.cell? ⟨V1.heap.size, 2, none⟩ = some (.int .i64 x1) := (BX22.out.old HP.out).cell 2
      have kt3_ : wp.cell? ⟨V1.heap.size, 3, none⟩ = some (.int .i64 y1) := (BX22.out.old HP.out).cell 3
      have kt4_ : wp.cell? ⟨V1.heap.size, 4, none⟩ = some (.int .i64 g1) := (BX22.out.old HP.out).cell 4
      have kt5_ : wp.cell? ⟨V1.heap.size, 5, none⟩ = some (.int .i64 k1) := (BX22.out.old HP.out).cell 5
      have ku0_ : wp.cell? ⟨V12.heap.size, 0, none⟩ = some (.int .i64 i1) := (BX23.out.old HP.out).cell 0
      have ku1_ : wp.cell? ⟨V12.heap.size, 1, none⟩ = some (.int .i64 s1) := (BX23.out.old HP.out).cell 1
      have ku2_ : wp.cell? ⟨V12.heap.size, 2, none⟩ = some (.int .i64 x1) := (BX23.out.old HP.out).cell 2
      have ku3_ : wp.cell? ⟨V12.heap.size, 3, none⟩ = some (.int .i64 y1) := (BX23.out.old HP.out).cell 3
      have ku4_ : wp.cell? ⟨V12.heap.size, 4, none⟩ = some (.int .i64 g1) := (BX23.out.old HP.out).cell 4
      have ku5_ : wp.cell? ⟨V12.heap.size, 5, none⟩ = some (.int .i64 k1) := (BX23.out.old HP.out).cell 5
      have m0 := int_ne_self i1
      have r0 := int_eq_self i1
      have m1 := int_ne_self s1
      have r1 := int_eq_self s1
      have m2 := int_ne_self x1
      have r2 := int_eq_self x1
      have m3 := int_ne_self y1
      have r3 := int_eq_self y1
      have m4 := int_ne_self g1
      have r4 := int_eq_self g1
      have m5 := int_ne_self k1
      have r5 := int_eq_self k1
      go_wp2_with fail
      go_meet
      exact ⟨rfl, HP.out⟩
  case rest =>
    obtain ⟨rfl, hbc⟩ := hcut
    have HB24 := Lib.hid (HB21.out.trans (hbc.mono HB21.out.size))
    clear HB21
    have BX25 := Lib.hid (BX22.out.old hbc)
    clear BX22
    have BX26 := Lib.hid (BX23.out.old hbc)
    clear BX23
    clear hbc
    clear BX25
    clear BX26
    clear CV F1 n1 n2
    generalize wc = VA at *
    go_wp2_with fail
    refine (drawy14.parseTrackLine A n c VA hn (Bytes_below H.out HB24.out)).mono ?_
    rintro e V27 ⟨t2, rfl, hz2, h28⟩
    have HB29 := Lib.hid (HB24.out.trans (h28.mono HB24.out.size))
    clear HB24
    clear h28
    have CP := Lib.hid (fun W (hx : ert.LY W) => trka.parseTrackLineI t2 W (by omega) hx.1 hx.2.1 hx.2.2.2)
    have CI := Lib.hid (fun W (hx : ert.LY W) => trkp.trackLineI (pI t2) (pS t2) (pX t2) (pY t2) (pH t2) (pL t2) W hx.1 hx.2.1)
    have F1 := Lib.hid (fun (h : ptB t2 = true) => line_again h)
    clear hz2
    generalize tlV (pI t2) (pS t2) (pX t2) (pY t2) (pH t2) (pL t2) = v2 at *
    generalize tkB (pI t2) (pS t2) (pX t2) (pY t2) (pH t2) (pL t2) = o4 at *
    generalize ptB t2 = o3 at *
    generalize pI t2 = i2 at *
    generalize pS t2 = s2 at *
    generalize pX t2 = x2 at *
    generalize pY t2 = y2 at *
    generalize pH t2 = g2 at *
    generalize pL t2 = k2 at *
    have K30 := CP.out V27 (ert.ly_on HX.out HB29.out)
    have K30 := Lib.hid K30
    go_wp2_with fail
    refine ((fun _ => K30.out) V27).mono ?_
    rintro e V31 ⟨rfl, h32⟩
    have HB33 := Lib.hid (HB29.out.trans (h32.mono HB29.out.size))
    clear HB29
    clear h32
    clear K30
    clear CP
    have BX34 := Lib.hid (plce.at_next 25 #[.int .i64 i2, .int .i64 s2, .int .i64 x2, .int .i64 y2, .int .i64 g2, .int .i64 k2] HB33.out)
    clear HB33
    have HBn := Lib.hid BX34.out.1
    have HB35 := HBn
    clear HBn
    go_upto_region 11 with fail
    generalize (V31.alloc (.cells #[.int .i64 i2, .int .i64 s2, .int .i64 x2, .int .i64 y2, .int .i64 g2, .int .i64 k2] 25)) = W10 at *
    have K36 := CI.out W10 (ert.ly_on HX.out HB35.out)
    have K36 := Lib.hid K36
    have kt0_ : W10.cell? ⟨V31.heap.size, 0, none⟩ = some (.int .i64 i2) := BX34.out.cell 0
    have kt1_ : W10.cell? ⟨V31.heap.size, 1, none⟩ = some (.int .i64 s2) := BX34.out.cell 1
    have kt2_ : W10.cell? ⟨V31.heap.size, 2, none⟩ = some (.int .i64 x2) := BX34.out.cell 2
    have kt3_ : W10.cell? ⟨V31.heap.size, 3, none⟩ = some (.int .i64 y2) := BX34.out.cell 3
    have kt4_ : W10.cell? ⟨V31.heap.size, 4, none⟩ = some (.int .i64 g2) := BX34.out.cell 4
    have kt5_ : W10.cell? ⟨V31.heap.size, 5, none⟩ = some (.int .i64 k2) := BX34.out.cell 5
    go_wp2_with fail
    clear kt0_ kt1_ kt2_ kt3_ kt4_ kt5_
    refine ((fun _ => K36.out) W10).mono ?_
    rintro e V37 ⟨rfl, h38⟩
    have HB39 := Lib.hid (HB35.out.trans (h38.mono HB35.out.size))
    clear HB35
    have BX40 := Lib.hid (BX34.out.old h38)
    clear BX34
    clear h38
    clear K36
    clear CI
    go_upto_region 12 with fail
    go_cut [97] from 88 to 97 (fun s wz => s = .bool false ∧ Below V37.heap.size V37 wz)
    case first =>
      cases o3
      · go_wp2_with fail
        go_meet
        exact ⟨rfl, Below.refl _ _⟩
      · obtain ⟨q0, q1⟩ := F1.out (by trivial)
        subst q0
        subst q1
        have n1 := str_ne_self v2
        go_wp2_with fail
        go_meet
        exact ⟨rfl, Below.refl _ _⟩
    case rest =>
      obtain ⟨rfl, hbc⟩ := hcut
      have HB41 := Lib.hid (HB39.out.trans (hbc.mono HB39.out.size))
      clear HB39
      have BX42 := Lib.hid (BX40.out.old hbc)
      clear BX40
      clear hbc
      clear BX42
      clear F1
      generalize wc = VB at *
      go_wp2_with fail
      refine (drawy14.hitTrack A n c VB hn (Bytes_below H.out HB41.out)).mono ?_
      rintro e V43 ⟨v3, k3, zs, d3, x3, y3, rfl, ho1, hk3, h44⟩
      obtain ⟨A1, c1, rfl, hc1⟩ := own_cap ho1
      have HB45 := Lib.hid (HB41.out.trans (h44.mono HB41.out.size))
      clear HB41
      clear h44
      have RX46 := Lib.hid (RdZ.of_own ho1 (own_len6 ho1))
      clear ho1
      have RX47 := Lib.hid (RX46.out.next ((Below.refl V43.heap.size V43).alloc (Nat.le_refl _) (.cells #[.int .i64 x3, .int .i64 y3] 35)))
      clear RX46
      have BX48 := Lib.hid (plce.at_next 35 #[.int .i64 x3, .int .i64 y3] HB45.out)
      clear HB45
      have HBn := Lib.hid BX48.out.1
      have HB49 := HBn
      clear HBn
      go_upto_region 15 with fail
      generalize (V43.alloc (.cells #[.int .i64 x3, .int .i64 y3] 35)) = W14 at *
      have CI := Lib.hid (fun W h1 (hx : ert.LY W) => trkg.hitTrack zs d3 x3 y3 A1 k3 c1 W (by omega) h1 hx.2.2.1.1 hx.2.2.1.2)
      have CS := Lib.hid (fun W h1 => trku.hitTrack zs d3 x3 y3 A1 k3 c1 W hc1 (by omega) h1)
      have F1 := Lib.hid (fun (q : Nat) (hq : q < hiN zs k3 d3 x3 y3) (he : fld 6 (hiL zs k3 d3 x3 y3) q 0 = d3) => hi_at hq he)
      have hN1 := hiN_le zs k3 d3 x3 y3
      generalize hiL zs k3 d3 x3 y3 = L1 at *
      generalize hiN zs k3 d3 x3 y3 = N1 at *
      generalize hiB zs k3 d3 x3 y3 = O1 at *
      have n1 := bool_ne_self O1
      have kp0_ : W14.cell? ⟨V43.heap.size, 0, none⟩ = some (.int .i64 x3) := BX48.out.cell 0
      have kp1_ : W14.cell? ⟨V43.heap.size, 1, none⟩ = some (.int .i64 y3) := BX48.out.cell 1
      go_wp2_with fail
      clear kp0_ kp1_
      refine (CI.out W14 RX47.out (ert.ly_on HX.out HB49.out)).mono ?_
      rintro e V50 ⟨vI, rfl, ho52, h51⟩
      obtain ⟨AI, cI, rfl, hcI⟩ := own_cap ho52
      have HB53 := Lib.hid (HB49.out.trans (h51.mono HB49.out.size))
      clear HB49
      have BX54 := Lib.hid (BX48.out.old h51)
      clear BX48
      have RX55 := Lib.hid (RX47.out.next h51)
      clear RX47
      clear h51
      have RX56 := Lib.hid (RdZ.of_own ho52 (own_len6 ho52))
      clear ho52
      have kp0_ : V50.cell? ⟨V43.heap.size, 0, none⟩ = some (.int .i64 x3) := BX54.out.cell 0
      have kp1_ : V50.cell? ⟨V43.heap.size, 1, none⟩ = some (.int .i64 y3) := BX54.out.cell 1
      go_wp2_with fail
      clear kp0_ kp1_
      refine (CS.out V50 RX55.out).mono ?_
      rintro e V57 ⟨vS, rfl, ho59, h58⟩
      obtain ⟨AS, cS, rfl, hcS⟩ := own_cap ho59
      have HB60 := Lib.hid (HB53.out.trans (h58.mono HB53.out.size))
      clear HB53
      have BX61 := Lib.hid (BX54.out.old h58)
      clear BX54
      have RX62 := Lib.hid (RX55.out.next h58)
      clear RX55
      have RX63 := Lib.hid (RX56.out.next h58)
      clear RX56
      clear h58
      have RX64 := Lib.hid (RdZ.of_own ho59 (own_len6 ho59))
      clear ho59
      clear CI CS
      go_wp2_with fail
      refine (vtrk.vTracks L1 AI AS N1 cI cS V57 (by omega) RX63.out RX64.out).mono ?_
      rintro e wx ⟨rfl, j65, rfl⟩
      have h66 := aid.below_drewN (Below.refl V57.heap.size V57) j65
      generalize V57.drewN j65 = V67 at *
      have HB68 := Lib.hid (HB60.out.trans (h66.mono HB60.out.size))
      clear HB60
      have BX69 := Lib.hid (BX61.out.old h66)
      clear BX61
      have RX70 := Lib.hid (RX62.out.next h66)
      clear RX62
      have RX71 := Lib.hid (RX63.out.next h66)
      clear RX63
      have RX72 := Lib.hid (RX64.out.next h66)
      clear RX64
      clear h66
      clear RX72
      go_wp2_with fail
      go_loopw [22] (fun i wr => ∃ q : Nat, q ≤ N1 ∧ i = .int .i64 q ∧ Below V67.heap.size V67 wr) (fun i _ => N1 - (intOf i).toNat)
      case atStart => exact ⟨0, Nat.zero_le _, rfl, Below.refl _ _⟩
      case round =>
        obtain ⟨q, hq, rfl, hb⟩ := hrel
        by_cases hlt : q < N1
        · have hlt2 : (q : Int) < (N1 : Int) := by omega
          have HB := Lib.hid hb
          have XI := Lib.hid (RX71.out.next hb)
          have X1 := Lib.hid (RX70.out.next hb)
          have XP := Lib.hid (BX69.out.old hb)
          clear hb
          obtain ⟨bm, om, hAm⟩ := some_z XI.out (by omega)
          subst hAm
          have p0 : wr.cell? ⟨bm, om + q * 6, none⟩ = some (.int .i64 (fld 6 L1 q 0)) := at_s XI.out hlt 0 (by omega)
          by_cases he : fld 6 L1 q 0 = d3
          · obtain ⟨hqk, h2, h3, h5, h4, hb1, hb2⟩ := F1.out q hlt he
            have hqk2 : (q : Int) < (k3 : Int) := by omega
            obtain ⟨bz, oz, hAz⟩ := some_z X1.out (by omega)
            subst hAz
            have p2 : wr.cell? ⟨bm, om + q * 6 + 2, none⟩ = some (.int .i64 (fld 6 L1 q 2)) := at_s XI.out hlt 2 (by omega)
            have p3 : wr.cell? ⟨bm, om + q * 6 + 3, none⟩ = some (.int .i64 (fld 6 L1 q 3)) := at_s XI.out hlt 3 (by omega)
            have p4 : wr.cell? ⟨bm, om + q * 6 + 4, none⟩ = some (.int .i64 (fld 6 L1 q 4)) := at_s XI.out hlt 4 (by omega)
            have p5 : wr.cell? ⟨bm, om + q * 6 + 5, none⟩ = some (.int .i64 (fld 6 L1 q 5)) := at_s XI.out hlt 5 (by omega)
            have z4 : wr.cell? ⟨bz, oz + q * 6 + 4, none⟩ = some (.int .i64 (fld 6 zs q 4)) := at_s X1.out hqk 4 (by omega)
            have s0 : wr.cell? ⟨V43.heap.size, 0, none⟩ = some (.int .i64 x3) := XP.out.cell 0
            have s1 : wr.cell? ⟨V43.heap.size, 1, none⟩ = some (.int .i64 y3) := XP.out.cell 1
            rw [he] at p0
            rw [h2] at p2
            rw [h3] at p3
            rw [h4] at p4
            rw [h5] at p5
            have e4 : IntKind.i64.wrap (fld 6 zs q 4 + 1) = fld 6 zs q 4 + 1 := IntWalk.i64_in _ (by omega)
            have n5 := int_eq_self d3
            have n6 := int_ne_self x3
            have n7 := int_ne_self y3
            have n8 := int_ne_self (fld 6 zs q 4 + 1)
            clear he h2 h3 h4 h5
            generalize fld 6 zs q 4 = e0 at *
            go_wp2_with fail
            have p0' := fun d0 os => cell_regrown p0 d0 os
            have p2' := fun d0 os => cell_regrown p2 d0 os
            have p3' := fun d0 os => cell_regrown p3 d0 os
            have p4' := fun d0 os => cell_regrown p4 d0 os
            have p5' := fun d0 os => cell_regrown p5 d0 os
            have z4' := fun d0 os => cell_regrown z4 d0 os
            have s0' := fun d0 os => cell_regrown s0 d0 os
            have s1' := fun d0 os => cell_regrown s1 d0 os
            clear p0 p2 p3 p4 p5 z4 s0 s1
            refine wp_region_quiet_below (by kernel_rfl) (by kernel_rfl) ?_
            repeat (
              with_reducible refine wpQuiet_step (fun K hK => ?_)
              go_simp
              refine hK _ ?_; clear hK K)
            with_reducible refine wpQuiet_nil ?_
            intro _ hw'
            obtain ⟨⟨dq, osq⟩, hw''⟩ := hw'
            subst hw''
            have hbl := (below_regrown wr dq osq)
            clear p0' p2' p3' p4' p5' z4' s0' s1'
            generalize Sort.grow (redrawn wr dq) osq = w5 at *
            have HD := Lib.hid (HB.out.trans (hbl.mono HB.out.size))
            clear hbl
            go_wp2_with fail
            go_roundw
            case rel => exact ⟨q + 1, by omega, by go_num, HD.out⟩
            case measure => simp [intOf]; omega
          · have n5 : (fld 6 L1 q 0 == d3) = false := by simpa using he
            clear he
            generalize fld 6 L1 q 0 = f0 at *
            go_wp2_with fail
            have p0' := fun d0 os => cell_regrown p0 d0 os
            clear p0
            refine wp_region_quiet_below (by kernel_rfl) (by kernel_rfl) ?_
            repeat (
              with_reducible refine wpQuiet_step (fun K hK => ?_)
              go_simp
              refine hK _ ?_; clear hK K)
            with_reducible refine wpQuiet_nil ?_
            intro _ hw'
            obtain ⟨⟨dq, osq⟩, hw''⟩ := hw'
            subst hw''
            have hbl := (below_regrown wr dq osq)
            clear p0'
            generalize Sort.grow (redrawn wr dq) osq = w5 at *
            have HD := Lib.hid (HB.out.trans (hbl.mono HB.out.size))
            clear hbl
            go_wp2_with fail
            go_roundw
            case rel => exact ⟨q + 1, by omega, by go_num, HD.out⟩
            case measure => simp [intOf]; omega
        · obtain rfl : q = N1 := by omega
          clear F1 n1
          have HB73 := Lib.hid (HB68.out.trans (hb.mono HB68.out.size))
          clear HB68
          have BX74 := Lib.hid (BX69.out.old hb)
          clear BX69
          have RX75 := Lib.hid (RX70.out.next hb)
          clear RX70
          have RX76 := Lib.hid (RX71.out.next hb)
          clear RX71
          clear hb
          clear RX75
          clear RX76
          clear BX74
          generalize wr = VC at *
          go_wp2_with fail
          refine (drawy14.startTrack A n c VC hn (Bytes_below H.out HB73.out)).mono ?_
          rintro e V77 ⟨v4, k4, ys, x4, y4, rfl, ho1, hk4, h78⟩
          obtain ⟨A1, c1, rfl, hc1⟩ := own_cap ho1
          have HB79 := Lib.hid (HB73.out.trans (h78.mono HB73.out.size))
          clear HB73
          clear h78
          have RX80 := Lib.hid (RdZ.of_own ho1 (own_len6 ho1))
          clear ho1
          have RX81 := Lib.hid (RX80.out.next ((Below.refl V77.heap.size V77).alloc (Nat.le_refl _) (.cells #[.int .i64 x4, .int .i64 y4] 35)))
          clear RX80
          have BX82 := Lib.hid (plce.at_next 35 #[.int .i64 x4, .int .i64 y4] HB79.out)
          clear HB79
          have HBn := Lib.hid BX82.out.1
          have HB83 := HBn
          clear HBn
          go_upto_region 25 with fail
          generalize (V77.alloc (.cells #[.int .i64 x4, .int .i64 y4] 35)) = W24 at *
          have CI := Lib.hid (fun W h1 => trkz.startI ys x4 y4 A1 k4 c1 W hc1 (by omega) h1)
          have CS := Lib.hid (fun W h1 => trkz.startS ys x4 y4 A1 k4 c1 W hc1 (by omega) h1)
          have F1 := Lib.hid (fun (h : stB ys k4 x4 y4 = true) => st_fine h)
          have hN2 := stN_six ys k4 x4 y4
          generalize stL ys k4 x4 y4 = L2 at *
          generalize stN ys k4 x4 y4 = N2 at *
          generalize stI ys k4 x4 y4 = I2 at *
          generalize stB ys k4 x4 y4 = O2 at *
          have n1 := bool_eq_self O2
          have n2 := int_eq_self I2
          have kp0_ : W24.cell? ⟨V77.heap.size, 0, none⟩ = some (.int .i64 x4) := BX82.out.cell 0
          have kp1_ : W24.cell? ⟨V77.heap.size, 1, none⟩ = some (.int .i64 y4) := BX82.out.cell 1
          go_wp2_with fail
          clear kp0_ kp1_
          refine (CI.out W24 RX81.out).mono ?_
          rintro e V84 ⟨vI, rfl, ho86, h85⟩
          obtain ⟨AI, cI, rfl, hcI⟩ := own_cap ho86
          have HB87 := Lib.hid (HB83.out.trans (h85.mono HB83.out.size))
          clear HB83
          have BX88 := Lib.hid (BX82.out.old h85)
          clear BX82
          have RX89 := Lib.hid (RX81.out.next h85)
          clear RX81
          clear h85
          have RX90 := Lib.hid (RdZ.of_own ho86 (own_len6 ho86))
          clear ho86
          have kp0_ : V84.cell? ⟨V77.heap.size, 0, none⟩ = some (.int .i64 x4) := BX88.out.cell 0
          have kp1_ : V84.cell? ⟨V77.heap.size, 1, none⟩ = some (.int .i64 y4) := BX88.out.cell 1
          go_wp2_with fail
          clear kp0_ kp1_
          refine (CS.out V84 RX89.out).mono ?_
          rintro e V91 ⟨vS, rfl, ho93, h92⟩
          obtain ⟨AS, cS, rfl, hcS⟩ := own_cap ho93
          have HB94 := Lib.hid (HB87.out.trans (h92.mono HB87.out.size))
          clear HB87
          have BX95 := Lib.hid (BX88.out.old h92)
          clear BX88
          have RX96 := Lib.hid (RX89.out.next h92)
          clear RX89
          have RX97 := Lib.hid (RX90.out.next h92)
          clear RX90
          clear h92
          have RX98 := Lib.hid (RdZ.of_own ho93 (own_len6 ho93))
          clear ho93
          clear CI CS
          clear BX95
          go_wp2_with fail
          refine (vtrk.vTracks L2 AI AS N2 cI cS V91 (by omega) RX97.out RX98.out).mono ?_
          rintro e wx ⟨rfl, j99, rfl⟩
          have h100 := aid.below_drewN (Below.refl V91.heap.size V91) j99
          generalize V91.drewN j99 = V101 at *
          have HB102 := Lib.hid (HB94.out.trans (h100.mono HB94.out.size))
          clear HB94
          have RX103 := Lib.hid (RX96.out.next h100)
          clear RX96
          have RX104 := Lib.hid (RX97.out.next h100)
          clear RX97
          have RX105 := Lib.hid (RX98.out.next h100)
          clear RX98
          clear h100
          clear RX105
          clear RX103
          have VT := Lib.hid (trkv.isValidTracks L2 AI N2 cI V101 (by omega) RX104.out)
          cases O2
          · have HE := Lib.hid HB102.out
            go_wp2_with fail
            go_ret
            exact ⟨rfl, HE.out⟩
          · obtain ⟨f1, f2⟩ := F1.out (by trivial)
            rw [f2] at VT
            have e1 : IntKind.i64.wrap ((k4 : Int) + 1) = (N2 : Int) := by rw [IntWalk.i64_in _ (by omega)]; omega
            have e2 : (k4 : Int) + 1 = (N2 : Int) := by omega
            have n3 := int_eq_self (N2 : Int)
            clear f1 f2
            go_wp2_with fail
            refine VT.out.mono ?_
            rintro e wp ⟨rfl, hp⟩
            have HE := Lib.hid (HB102.out.trans (hp.mono HB102.out.size))
            clear hp
            go_wp2_with fail
            go_ret
            exact ⟨rfl, HE.out⟩

theorem own : ownKnob Tryz.prog.godebug = none := by kernel_rfl
theorem laidOut : laidOutB Tryz.prog = true := by kernel_rfl


set_option maxRecDepth 100000 in
theorem contract (H : Type) (enc : TypeId × Value → H) (W : World) (base : Nat) (args : Array Value) (ds gs : List (DataW H)) (before : List MemPlace)
    (hval : ∀ (j : Nat) t v, Tryz.f3.params[j]? = some t → args[j]? = some v → Value.okWide Tryz.prog W .any base t v)
    (hW : DataW.Whole enc Tryz.prog Tryz.f3.params.toList Rows.fnTracksSpec.vars false W args.toList ds gs before) (hL : laidMetH Tryz.prog Rows.fnTracksRow.laid W) (hsh : W.ShapedOpen Tryz.prog) :
    Calls Tryz.prog 3 args W fun e W' => ∃ v, e = .returned v ∧ Rows.fnTracksSpec.post enc Tryz.prog Tryz.f3 false true false false W args v W' := by
  have hW' := hW
  obtain ⟨p, q, hA0, hV, rfl, hfz, hnd⟩ := hW
  have hA : DataW.TrodAll enc Tryz.prog W 0 (fun _ => true) true Tryz.f3.params.toList args.toList ds p := hA0
  rw [Tryz.params3] at hA hval
  obtain ⟨v0, vs0, d0, ds0, p0, q0, hargs, rfl, rfl, h0, r0⟩ := trodAll_cons hA
  obtain ⟨rfl, rfl, rfl⟩ := trodAll_nil r0
  obtain rfl : args = #[v0] := by cases args; simp_all
  obtain ⟨dv0, dv1, rfl⟩ : ∃ dv0 dv1, gs = [dv0, dv1] := by
    match gs, laid_.vars_length hV with
    | [dv0, dv1], _ => exact ⟨dv0, dv1, rfl⟩
  obtain ⟨a0, len0, cap0, rfl⟩ := okWide_slice Tryz.underlying22 (hval 0 22 v0 rfl rfl)
  have k0 := h0
  have lt0 : ∀ x ∈ p0, x.block < W.heap.size := by obtain ⟨m, hm⟩ := k0; exact DataW.trod_lt m _ _ _ hm
  obtain ⟨z0, w0⟩ : ∃ zs, IsRow .u8 W a0 len0 cap0 zs := by
    obtain ⟨fuel, hf⟩ := h0
    rcases open_ints Tryz.underlying22 Tryz.underlying5 (by kernel_rfl) hf with ⟨hcs, _⟩ | ⟨x, l, c, zs, hcs, _, hl, hm, hz, _, hcell, hwz⟩
    · simp [Value.cells] at hcs
      obtain ⟨rfl, rfl, rfl⟩ := hcs
      exact ⟨[], .inl ⟨rfl, rfl, rfl, rfl⟩⟩
    · simp [Value.cells] at hcs
      obtain ⟨rfl, rfl, rfl⟩ := hcs
      exact ⟨zs, .inr ⟨_, rfl, hl, hm, by simpa using hz, hcell, hwz⟩⟩
  clear hA0
  refine (walk a0 len0 cap0 z0 W w0 (ert.of_all hL (Tryz.laysM145.s1_3 W hsh))).mono fun e W' ⟨he, bel⟩ => ?_
  subst he
  exact ⟨_, rfl, _, _, _, [], _, _, hW', trodAll_mk1 (shut_bool Tryz.underlying4 _), (trodAll_cons_mk (Below.trod laidOut (by kernel_rfl) (of_decide_eq_true (by kernel_rfl)) k0 bel lt0) trodAll_mk0), Below.trodVars laidOut bel (by kernel_rfl) hV, bel.frame _, fun h => by cases h⟩

theorem laid_met (os : Os) : laidMetH Tryz.prog Rows.fnTracksRow.laid ((ert.laidWorld os).forCall (fun _ _ => 0) ⟨#[], #[.slice none 0 0], []⟩).memory :=
  ert.all_met os _
theorem reads (os : Os) {H : Type} (enc : TypeId × Value → H) : ∃ places, DataW.whole enc Tryz.prog ((ert.laidWorld os).forCall (fun _ _ => 0) ⟨#[], #[.slice none 0 0], []⟩).memory Tryz.f3.params.toList Rows.fnTracksSpec.vars false (#[.slice none 0 0] : Array Value).toList 8 = some ([.nil], [Rows.laid_loop_example_g00875_impl_stateWords, .held (enc (190, .pointer (some ⟨erl.low, 0, none⟩)))], places) :=
  ⟨MemPlace.row ⟨0, 0, none⟩ 4 ++ MemPlace.row ⟨1, 0, none⟩ 1, by kernel_rfl⟩

set_option maxRecDepth 100000 in
theorem lifted (os : Os) (started : os.Started) (H : Type) (enc : TypeId × Value → H) (F : Stop.Interp) :
    ReturnsInHanded {} Tryz.checked os 3 .any ((OpenSpec.ofChange Rows.fnTracksSpec).preRow enc Tryz.prog Tryz.f3 Rows.fnTracksRow.domain false Rows.fnTracksRow.laid) (((OpenSpec.ofChange Rows.fnTracksSpec).at F).post enc Tryz.prog Tryz.f3 false true false false) := by
  obtain ⟨places, hx⟩ := reads os enc
  refine returnsInHanded_of_row (C := Tryz.checked) (s := OpenSpec.ofChange Rows.fnTracksSpec) own started (by kernel_rfl) Tryz.func3
    (witness_row_at (enc := enc) (C := Tryz.checked) false (ert.laidWorld os) #[.slice none 0 0] rfl (by kernel_rfl) (by kernel_rfl) (by kernel_rfl)
      (OpenSpec.preRow_of_cond 8 hx (by kernel_rfl) (fun k hk => by cases hk) (by kernel_rfl) (laid_met os))) ?_
  intro W base args ds gs before hval hW _ _ _ hL hsh _
  exact contract H enc W base args ds gs before hval hW hL hsh

theorem said : Rows.FnTracksSaid :=
  OpenClaim.holds_of_cond 3 Tryz.f3 rfl rfl rfl rfl rfl rfl rfl ⟨rfl, rfl, rfl, rfl, rfl⟩ rfl rfl rfl rfl rfl (by kernel_rfl) Tryz.func3 (by kernel_rfl)
    (of_decide_eq_true (by kernel_rfl)) (by unfold Func.isWrapper; first | (rw [if_pos (by decide +kernel)]; kernel_rfl) | (rw [if_neg (by decide +kernel)]; exact ⟨rfl, rfl⟩))
    (fun os started H enc _ F => by rw [OpenClaim.pre_eq_preRow]; exact lifted os started H enc F)

theorem plain (f : FuncId) (fn : Func) (hf : Tryz.pinned.checked.prog.funcNamed "loop.example/g00875/laws.FnTracks" = some f) (hfn : Tryz.pinned.checked.prog.funcs[f]? = some fn) :
    true = Tryz.pinned.checked.prog.looks [] ∧ ∀ (j : Nat) t, fn.params[j]? = some t → Tryz.pinned.checked.prog.wantsStandIn t = false := by
  obtain rfl : f = 3 := Option.some.inj ((show Tryz.prog.funcNamed "loop.example/g00875/laws.FnTracks" = some 3 by kernel_rfl).symm.trans hf) |>.symm
  obtain rfl : fn = Tryz.f3 := (Option.some.inj (Tryz.func3.symm.trans hfn)).symm
  refine ⟨by kernel_rfl, fun j t ht => ?_⟩
  rw [Tryz.params3] at ht
  have hm := Array.mem_of_getElem? ht
  simp at hm
  obtain rfl := hm
  exact (show Tryz.prog.wantsStandIn 22 = false by kernel_rfl)

theorem proved : Rows.FnTracksCardSaid :=
  Claim7.holds_tied_plain_at .later [] _ _ _ _ said (fun _ h => by cases h) (by kernel_rfl) (fun _ h => by cases h) fnTracks_row_tie rfl ⟨rfl, rfl⟩ (by kernel_rfl) rfl plain (by kernel_rfl)
#print axioms proved
end Go.Proofs.YtfigjfckelichaaGreatDoor.fnTracks
