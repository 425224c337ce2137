/- spec's draws for FnUpdates. -/
import Derived.Test.YtfigjfckelichaaGreatDoorAtC
import Derived.Test.YtfigjfckelichaaGreatDoorCode
import Derived.Test.YtfigjfckelichaaGreatDoorDrawP7
import Derived.Test.YtfigjfckelichaaGreatDoorCurInt
import Derived.Test.YtfigjfckelichaaGreatDoorTrkS
import Derived.Test.YtfigjfckelichaaGreatDoorTrkE
import Derived.Test.YtfigjfckelichaaGreatDoorTailH
import Derived.Deep.AppendLies
import Derived.ChangeAlike
import Derived.Deep.RegionHeld3
import Derived.Deep.CutBlock
import Derived.Deep.CutRange
import Derived.Test.YtfigjfckelichaaGreatDoorAsgX
import Derived.Test.YtfigjfckelichaaGreatDoorIntC
import Derived.Test.YtfigjfckelichaaGreatDoorRws
import Derived.OwnWalk

/- spec's draws of tracks. -/
namespace Go.Proofs.YtfigjfckelichaaGreatDoor.draws14
open Go.RowKit Go.Proofs.YtfigjfckelichaaGreatDoor.cur Go.Proofs.YtfigjfckelichaaGreatDoor.atc Go.Proofs.YtfigjfckelichaaGreatDoor.ats Go.Proofs.YtfigjfckelichaaGreatDoor.ints Go.Proofs.YtfigjfckelichaaGreatDoor.lst Go.Proofs.YtfigjfckelichaaGreatDoor.code_ Go.Proofs.YtfigjfckelichaaGreatDoor.tailh

def TrackQ (p m : Nat) (w : World) (e : Ending) (w' : World) : Prop := ∃ a b c d h l : Int, e = .returned (.agg #[.int .i64 a, .int .i64 b, .int .i64 c, .int .i64 d, .int .i64 h, .int .i64 l]) ∧ Cur w' p m ∧ w.grownBy w' (some p)

theorem grown_put {w W : World} {p b i : Nat} {v : Value} (h : w.grownBy W (some p)) (hb : w.heap.size ≤ b) : w.grownBy (W.setCell ⟨b, i, none⟩ v) (some p) :=
  ⟨h.os, h.tape, h.output, by have := h.size; simpa [World.setCell] using this, fun k hk hne => (Go.Deep.blk_setCell_other W ⟨b, i, none⟩ v k (by show k ≠ b; omega)).trans (h.block k hk hne)⟩
theorem grown_dr {w W : World} {p : Nat} (h : w.grownBy W (some p)) : w.grownBy W.drew (some p) := ⟨h.os, h.tape, h.output, h.size, h.block⟩

set_option maxRecDepth 100000 in
set_option maxHeartbeats 16000000 in
theorem track (p m : Nat) (w : World) (h : Cur w p m) (hm : m ≤ 200000) :
    Calls Tryz.prog 38 #[.pointer (some ⟨p, 0, none⟩)] w (TrackQ p (m + 30) w) := by
  have hzp : p < w.heap.size := h.lt
  have Z0 := Lib.hid (Blk.new 25 #[.int .i64 0, .int .i64 0, .int .i64 0, .int .i64 0, .int .i64 0, .int .i64 0] w)
  have C0 := Lib.hid (Cur.alloc h (.cells #[.int .i64 0, .int .i64 0, .int .i64 0, .int .i64 0, .int .i64 0, .int .i64 0] 25))
  have G0 := Lib.hid (show w.grownBy (w.alloc (.cells #[.int .i64 0, .int .i64 0, .int .i64 0, .int .i64 0, .int .i64 0, .int .i64 0] 25)) (some p) from grown_alloc _ _)
  clear h
  go_enter Tryz.func38, Tryz.ntmps38
  go_wp2_with fail
  generalize w.alloc (.cells #[.int .i64 0, .int .i64 0, .int .i64 0, .int .i64 0, .int .i64 0, .int .i64 0] 25) = W0 at *
  refine (drawp7.place p m W0 C0.out (by omega)).mono ?_
  rintro e w1 ⟨x, y, rfl, -, hc, hg⟩
  have Z1 := Lib.hid ((Z0.out.grown hg (Nat.ne_of_gt hzp)).alloc (.cells #[.int .i64 x, .int .i64 y] 35))
  have P2 := Lib.hid (Blk.new 35 #[.int .i64 x, .int .i64 y] w1)
  have C2 := Lib.hid (Cur.alloc hc (.cells #[.int .i64 x, .int .i64 y] 35))
  have hpp : p < w1.heap.size := hc.lt
  have G2 := Lib.hid (grown_trans (grown_trans G0.out hg) (grown_alloc (.cells #[.int .i64 x, .int .i64 y] 35) (some p)))
  clear hc hg Z0 C0 G0
  go_upto_region 2 with fail
  generalize w1.alloc (.cells #[.int .i64 x, .int .i64 y] 35) = W1 at *
  generalize w1.heap.size = pb at *
  go_cut [4] from 7 to 17 (fun v wx => ∃ b i s, v = .pointer (some ⟨b, 0, none⟩) ∧ p < b ∧ w.heap.size < b ∧ Blk 25 #[.int .i64 i, .int .i64 s, .int .i64 x, .int .i64 y, .int .i64 0, .int .i64 0] wx b ∧ Blk 25 #[.int .i64 0, .int .i64 0, .int .i64 0, .int .i64 0, .int .i64 0, .int .i64 0] wx w.heap.size ∧ Cur wx p (m + 14) ∧ w.grownBy wx (some p))
  case first =>
    have P2 := Lib.hid P2.out.drew
    have Z2 := Lib.hid Z1.out.drew
    have C2 := Lib.hid (C2.out.keep ((Below.refl (p + 1) W1).drew))
    have G2 := Lib.hid (grown_dr G2.out)
    clear Z1
    refine wp_region_tail (S := fun w' => Blk 35 #[.int .i64 x, .int .i64 y] w' pb) 12 (by kernel_rfl) P2.out (fun hHeld => ?_)
    generalize W1.drew = W2 at *
    try simp only [Act.put]
    refine wpAnyE_take (i := 0) (v := ?vqz0) rfl (by decide +kernel) (fun _ _ _ h => h) (Or.inl ⟨by rfl, ?hqz0⟩) (by assumption) ?rqz0
    case hqz0 =>
      intro wS hSw
      have h0 := hSw.cell 0 _ rfl
      have h1 := hSw.cell 1 _ rfl
      go_simp
      try with_reducible rfl
    try simp only [Act.put]
    refine wpAnyE_take (i := 3) (v := ?vqz3) rfl (by decide +kernel) (fun _ _ _ h => h) (Or.inl ⟨by rfl, ?hqz3⟩) (by assumption) ?rqz3
    case hqz3 =>
      intro wS hSw
      have h0 := hSw.cell 0 _ rfl
      have h1 := hSw.cell 1 _ rfl
      go_simp
      try with_reducible rfl
    try simp only [Act.put]
    refine wpAnyE_take (i := 6) (v := ?vqz6) rfl (by decide +kernel) (fun _ _ _ h => h) (Or.inl ⟨by rfl, ?hqz6⟩) (by assumption) ?rqz6
    case hqz6 =>
      intro wS hSw
      have h0 := hSw.cell 0 _ rfl
      have h1 := hSw.cell 1 _ rfl
      go_simp
      try with_reducible rfl
    try simp only [Act.put]
    refine wpAnyE_take (i := 7) (v := ?vqz7) rfl (by decide +kernel) (fun _ _ _ h => h) (Or.inl ⟨by rfl, ?hqz7⟩) (by assumption) ?rqz7
    case hqz7 =>
      intro wS hSw
      have h0 := hSw.cell 0 _ rfl
      have h1 := hSw.cell 1 _ rfl
      go_simp
      try with_reducible rfl
    try simp only [Act.put]
    refine wpAnyE_take (i := 8) (v := ?vqz8) rfl (by decide +kernel) (fun _ _ _ h => h) (Or.inl ⟨by rfl, ?hqz8⟩) (by assumption) ?rqz8
    case hqz8 =>
      intro wS hSw
      have h0 := hSw.cell 0 _ rfl
      have h1 := hSw.cell 1 _ rfl
      go_simp
      try with_reducible rfl
    try simp only [Act.put]
    refine wpAnyE_take (i := 9) (v := ?vqz9) rfl (by decide +kernel) (fun _ _ _ h => h) (Or.inl ⟨by rfl, ?hqz9⟩) (by assumption) ?rqz9
    case hqz9 =>
      intro wS hSw
      have h0 := hSw.cell 0 _ rfl
      have h1 := hSw.cell 1 _ rfl
      go_simp
      try with_reducible rfl
    try simp only [Act.put]
    refine wpAnyE_ready (rs := [1, 11]) (by kernel_rfl) (by simp) ?_
    refine AllReadyE.cons (i := 1) rfl (by decide) (fun K hK => ?_) (AllReadyE.cons (i := 11) rfl (by decide) (fun K hK => ?_) AllReadyE.nil)
    · go_simp
      refine (pick p _ 20 W2 C2.out (by omega) (by omega) (by omega)).mono ?_
      rintro e Woa ⟨i, rfl, i0, i1, hc, hg⟩
      have Poa := Lib.hid (P2.out.grown hg (Nat.ne_of_gt hpp))
      have Zoa := Lib.hid (Z2.out.grown hg (Nat.ne_of_gt hzp))
      have Goa := Lib.hid (grown_trans G2.out hg)
      have Coa := Lib.hid hc
      clear hc hg
      refine hK.out _ _ Poa.out (fun hHeld => ?_)
      clear hK K
      try simp only [Act.put]
      refine wpAnyE_take (i := 2) (v := ?vqoa2) rfl (by decide +kernel) (fun _ _ _ h => h) (Or.inl ⟨by rfl, ?hqoa2⟩) (by assumption) ?rqoa2
      case hqoa2 =>
        intro wS hSw
        have h0 := hSw.cell 0 _ rfl
        have h1 := hSw.cell 1 _ rfl
        go_simp
        try with_reducible rfl
      try simp only [Act.put]
      refine wpAnyE_ready (rs := [4, 11]) (by kernel_rfl) (by simp) ?_
      refine AllReadyE.cons (i := 4) rfl (by decide) (fun K hK => ?_) (AllReadyE.cons (i := 11) rfl (by decide) (fun K hK => ?_) AllReadyE.nil)
      · go_simp
        refine (pick p _ 3 Woa Coa.out (by omega) (by omega) (by omega)).mono ?_
        rintro e Woab ⟨s, rfl, s0, s1, hc, hg⟩
        have Poab := Lib.hid (Poa.out.grown hg (Nat.ne_of_gt hpp))
        have Zoab := Lib.hid (Zoa.out.grown hg (Nat.ne_of_gt hzp))
        have Goab := Lib.hid (grown_trans Goa.out hg)
        have Coab := Lib.hid hc
        clear hc hg
        refine hK.out _ _ Poab.out (fun hHeld => ?_)
        clear hK K
        try simp only [Act.put]
        refine wpAnyE_take (i := 5) (v := ?vqoab5) rfl (by decide +kernel) (fun _ _ _ h => h) (Or.inl ⟨by rfl, ?hqoab5⟩) (by assumption) ?rqoab5
        case hqoab5 =>
          intro wS hSw
          have h0 := hSw.cell 0 _ rfl
          have h1 := hSw.cell 1 _ rfl
          go_simp
          try with_reducible rfl
        try simp only [Act.put]
        refine wpAnyE_take (i := 10) (v := ?vqoab10) rfl (by decide +kernel) (fun _ _ _ h => h) (Or.inl ⟨by rfl, ?hqoab10⟩) (by assumption) ?rqoab10
        case hqoab10 =>
          intro wS hSw
          have h0 := hSw.cell 0 _ rfl
          have h1 := hSw.cell 1 _ rfl
          go_simp
          try with_reducible rfl
        try simp only [Act.put]
        refine wpAnyE_ready (rs := [11]) (by kernel_rfl) (by simp) ?_
        refine AllReadyE.cons (i := 11) rfl (by decide) (fun K hK => ?_) AllReadyE.nil
        go_simp
        have hszoabc := Poab.out.lt
        have htp : p < Woab.heap.size := Nat.lt_trans hpp Poab.out.lt
        have hzt : w.heap.size < Woab.heap.size := Zoab.out.lt
        have Poabc := Lib.hid (Poab.out.alloc (.cells #[.int .i64 0, .int .i64 0, .int .i64 0, .int .i64 0, .int .i64 0, .int .i64 0] 25))
        have Zoabc := Lib.hid (Zoab.out.alloc (.cells #[.int .i64 0, .int .i64 0, .int .i64 0, .int .i64 0, .int .i64 0, .int .i64 0] 25))
        have Goabc := Lib.hid (grown_trans Goab.out (grown_alloc (.cells #[.int .i64 0, .int .i64 0, .int .i64 0, .int .i64 0, .int .i64 0, .int .i64 0] 25) (some p)))
        have Coabc := Lib.hid (Cur.alloc Coab.out (.cells #[.int .i64 0, .int .i64 0, .int .i64 0, .int .i64 0, .int .i64 0, .int .i64 0] 25))
        have Toabc := Lib.hid (Blk.new 25 #[.int .i64 0, .int .i64 0, .int .i64 0, .int .i64 0, .int .i64 0, .int .i64 0] Woab)
        clear hszoabc
        refine hK.out _ _ Poabc.out (fun hHeld => ?_)
        clear hK K
        try simp only [Act.put]
        generalize Woab.alloc (.cells #[.int .i64 0, .int .i64 0, .int .i64 0, .int .i64 0, .int .i64 0, .int .i64 0] 25) = Voabc at *
        generalize Woab.heap.size = boabc at *
        have s0 : Voabc.cell? ⟨boabc, 0, none⟩ = some (.int .i64 0) := Toabc.out.cell 0 _ rfl
        have sf0 := Toabc.out.frozen 0
        have s1 : Voabc.cell? ⟨boabc, 1, none⟩ = some (.int .i64 0) := Toabc.out.cell 1 _ rfl
        have sf1 := Toabc.out.frozen 1
        have s2 : Voabc.cell? ⟨boabc, 2, none⟩ = some (.int .i64 0) := Toabc.out.cell 2 _ rfl
        have sf2 := Toabc.out.frozen 2
        have s3 : Voabc.cell? ⟨boabc, 3, none⟩ = some (.int .i64 0) := Toabc.out.cell 3 _ rfl
        have sf3 := Toabc.out.frozen 3
        have s4 : Voabc.cell? ⟨boabc, 4, none⟩ = some (.int .i64 0) := Toabc.out.cell 4 _ rfl
        have sf4 := Toabc.out.frozen 4
        have s5 : Voabc.cell? ⟨boabc, 5, none⟩ = some (.int .i64 0) := Toabc.out.cell 5 _ rfl
        have sf5 := Toabc.out.frozen 5
        refine wpAnyE_ready (rs := [12]) (by kernel_rfl) (by simp) ?_
        refine AllReadyE.last (i := 12) rfl rfl (fun K hK => ?_)
        go_simp
        refine hK.out _ _ ?_
        clear hK K
        try simp only [Act.put]
        refine wpAnyE_done (by kernel_rfl) ?_ _
        try simp only [List.getElem_toArray, List.getElem_cons_succ, List.getElem_cons_zero, List.setIfInBounds_toArray, List.set_cons_succ, List.set_cons_zero]
        go_wp2_with fail
        go_meet
        exact ⟨_, _, _, rfl, htp, hzt, ((((((Toabc.out.set 0 (.int .i64 (IntKind.i64.wrap (1 + i)))).set 1 (.int .i64 (IntKind.i64.wrap (1 + s)))).set 2 (.int .i64 x)).set 3 (.int .i64 y)).set 4 (.int .i64 0)).set 5 (.int .i64 0)), ((((((Zoabc.out.other (Nat.ne_of_lt hzt) 0 (.int .i64 (IntKind.i64.wrap (1 + i)))).other (Nat.ne_of_lt hzt) 1 (.int .i64 (IntKind.i64.wrap (1 + s)))).other (Nat.ne_of_lt hzt) 2 (.int .i64 x)).other (Nat.ne_of_lt hzt) 3 (.int .i64 y)).other (Nat.ne_of_lt hzt) 4 (.int .i64 0)).other (Nat.ne_of_lt hzt) 5 (.int .i64 0)), (Cur.set (Cur.set (Cur.set (Cur.set (Cur.set (Cur.set Coabc.out htp (i := 0) (v := .int .i64 (IntKind.i64.wrap (1 + i)))) htp (i := 1) (v := .int .i64 (IntKind.i64.wrap (1 + s)))) htp (i := 2) (v := .int .i64 x)) htp (i := 3) (v := .int .i64 y)) htp (i := 4) (v := .int .i64 0)) htp (i := 5) (v := .int .i64 0)).more (by omega), (grown_put (grown_put (grown_put (grown_put (grown_put (grown_put Goabc.out (Nat.le_of_lt hzt) (i := 0) (v := .int .i64 (IntKind.i64.wrap (1 + i)))) (Nat.le_of_lt hzt) (i := 1) (v := .int .i64 (IntKind.i64.wrap (1 + s)))) (Nat.le_of_lt hzt) (i := 2) (v := .int .i64 x)) (Nat.le_of_lt hzt) (i := 3) (v := .int .i64 y)) (Nat.le_of_lt hzt) (i := 4) (v := .int .i64 0)) (Nat.le_of_lt hzt) (i := 5) (v := .int .i64 0))⟩
      · go_simp
        have hszoac := Poa.out.lt
        have htp : p < Woa.heap.size := Nat.lt_trans hpp Poa.out.lt
        have hzt : w.heap.size < Woa.heap.size := Zoa.out.lt
        have Poac := Lib.hid (Poa.out.alloc (.cells #[.int .i64 0, .int .i64 0, .int .i64 0, .int .i64 0, .int .i64 0, .int .i64 0] 25))
        have Zoac := Lib.hid (Zoa.out.alloc (.cells #[.int .i64 0, .int .i64 0, .int .i64 0, .int .i64 0, .int .i64 0, .int .i64 0] 25))
        have Goac := Lib.hid (grown_trans Goa.out (grown_alloc (.cells #[.int .i64 0, .int .i64 0, .int .i64 0, .int .i64 0, .int .i64 0, .int .i64 0] 25) (some p)))
        have Coac := Lib.hid (Cur.alloc Coa.out (.cells #[.int .i64 0, .int .i64 0, .int .i64 0, .int .i64 0, .int .i64 0, .int .i64 0] 25))
        have Toac := Lib.hid (Blk.new 25 #[.int .i64 0, .int .i64 0, .int .i64 0, .int .i64 0, .int .i64 0, .int .i64 0] Woa)
        clear hszoac
        refine hK.out _ _ Poac.out (fun hHeld => ?_)
        clear hK K
        try simp only [Act.put]
        generalize Woa.alloc (.cells #[.int .i64 0, .int .i64 0, .int .i64 0, .int .i64 0, .int .i64 0, .int .i64 0] 25) = Voac at *
        generalize Woa.heap.size = boac at *
        refine wpAnyE_ready (rs := [4]) (by kernel_rfl) (by simp) ?_
        refine AllReadyE.cons (i := 4) rfl (by decide) (fun K hK => ?_) AllReadyE.nil
        go_simp
        refine (pick p _ 3 Voac Coac.out (by omega) (by omega) (by omega)).mono ?_
        rintro e Woacb ⟨s, rfl, s0, s1, hc, hg⟩
        have Poacb := Lib.hid (Poac.out.grown hg (Nat.ne_of_gt hpp))
        have Zoacb := Lib.hid (Zoac.out.grown hg (Nat.ne_of_gt hzp))
        have Goacb := Lib.hid (grown_trans Goac.out hg)
        have Coacb := Lib.hid hc
        have Toacb := Lib.hid (Toac.out.grown hg (Nat.ne_of_gt htp))
        clear hc hg
        refine hK.out _ _ Poacb.out (fun hHeld => ?_)
        clear hK K
        try simp only [Act.put]
        refine wpAnyE_take (i := 5) (v := ?vqoacb5) rfl (by decide +kernel) (fun _ _ _ h => h) (Or.inl ⟨by rfl, ?hqoacb5⟩) (by assumption) ?rqoacb5
        case hqoacb5 =>
          intro wS hSw
          have h0 := hSw.cell 0 _ rfl
          have h1 := hSw.cell 1 _ rfl
          go_simp
          try with_reducible rfl
        try simp only [Act.put]
        refine wpAnyE_take (i := 10) (v := ?vqoacb10) rfl (by decide +kernel) (fun _ _ _ h => h) (Or.inl ⟨by rfl, ?hqoacb10⟩) (by assumption) ?rqoacb10
        case hqoacb10 =>
          intro wS hSw
          have h0 := hSw.cell 0 _ rfl
          have h1 := hSw.cell 1 _ rfl
          go_simp
          try with_reducible rfl
        try simp only [Act.put]
        have s0 : Woacb.cell? ⟨boac, 0, none⟩ = some (.int .i64 0) := Toacb.out.cell 0 _ rfl
        have sf0 := Toacb.out.frozen 0
        have s1 : Woacb.cell? ⟨boac, 1, none⟩ = some (.int .i64 0) := Toacb.out.cell 1 _ rfl
        have sf1 := Toacb.out.frozen 1
        have s2 : Woacb.cell? ⟨boac, 2, none⟩ = some (.int .i64 0) := Toacb.out.cell 2 _ rfl
        have sf2 := Toacb.out.frozen 2
        have s3 : Woacb.cell? ⟨boac, 3, none⟩ = some (.int .i64 0) := Toacb.out.cell 3 _ rfl
        have sf3 := Toacb.out.frozen 3
        have s4 : Woacb.cell? ⟨boac, 4, none⟩ = some (.int .i64 0) := Toacb.out.cell 4 _ rfl
        have sf4 := Toacb.out.frozen 4
        have s5 : Woacb.cell? ⟨boac, 5, none⟩ = some (.int .i64 0) := Toacb.out.cell 5 _ rfl
        have sf5 := Toacb.out.frozen 5
        refine wpAnyE_ready (rs := [12]) (by kernel_rfl) (by simp) ?_
        refine AllReadyE.last (i := 12) rfl rfl (fun K hK => ?_)
        go_simp
        refine hK.out _ _ ?_
        clear hK K
        try simp only [Act.put]
        refine wpAnyE_done (by kernel_rfl) ?_ _
        try simp only [List.getElem_toArray, List.getElem_cons_succ, List.getElem_cons_zero, List.setIfInBounds_toArray, List.set_cons_succ, List.set_cons_zero]
        go_wp2_with fail
        go_meet
        exact ⟨_, _, _, rfl, htp, hzt, ((((((Toacb.out.set 0 (.int .i64 (IntKind.i64.wrap (1 + i)))).set 1 (.int .i64 (IntKind.i64.wrap (1 + s)))).set 2 (.int .i64 x)).set 3 (.int .i64 y)).set 4 (.int .i64 0)).set 5 (.int .i64 0)), ((((((Zoacb.out.other (Nat.ne_of_lt hzt) 0 (.int .i64 (IntKind.i64.wrap (1 + i)))).other (Nat.ne_of_lt hzt) 1 (.int .i64 (IntKind.i64.wrap (1 + s)))).other (Nat.ne_of_lt hzt) 2 (.int .i64 x)).other (Nat.ne_of_lt hzt) 3 (.int .i64 y)).other (Nat.ne_of_lt hzt) 4 (.int .i64 0)).other (Nat.ne_of_lt hzt) 5 (.int .i64 0)), (Cur.set (Cur.set (Cur.set (Cur.set (Cur.set (Cur.set Coacb.out htp (i := 0) (v := .int .i64 (IntKind.i64.wrap (1 + i)))) htp (i := 1) (v := .int .i64 (IntKind.i64.wrap (1 + s)))) htp (i := 2) (v := .int .i64 x)) htp (i := 3) (v := .int .i64 y)) htp (i := 4) (v := .int .i64 0)) htp (i := 5) (v := .int .i64 0)).more (by omega), (grown_put (grown_put (grown_put (grown_put (grown_put (grown_put Goacb.out (Nat.le_of_lt hzt) (i := 0) (v := .int .i64 (IntKind.i64.wrap (1 + i)))) (Nat.le_of_lt hzt) (i := 1) (v := .int .i64 (IntKind.i64.wrap (1 + s)))) (Nat.le_of_lt hzt) (i := 2) (v := .int .i64 x)) (Nat.le_of_lt hzt) (i := 3) (v := .int .i64 y)) (Nat.le_of_lt hzt) (i := 4) (v := .int .i64 0)) (Nat.le_of_lt hzt) (i := 5) (v := .int .i64 0))⟩
    · go_simp
      have hszoc := P2.out.lt
      have htp : p < W2.heap.size := Nat.lt_trans hpp P2.out.lt
      have hzt : w.heap.size < W2.heap.size := Z2.out.lt
      have Poc := Lib.hid (P2.out.alloc (.cells #[.int .i64 0, .int .i64 0, .int .i64 0, .int .i64 0, .int .i64 0, .int .i64 0] 25))
      have Zoc := Lib.hid (Z2.out.alloc (.cells #[.int .i64 0, .int .i64 0, .int .i64 0, .int .i64 0, .int .i64 0, .int .i64 0] 25))
      have Goc := Lib.hid (grown_trans G2.out (grown_alloc (.cells #[.int .i64 0, .int .i64 0, .int .i64 0, .int .i64 0, .int .i64 0, .int .i64 0] 25) (some p)))
      have Coc := Lib.hid (Cur.alloc C2.out (.cells #[.int .i64 0, .int .i64 0, .int .i64 0, .int .i64 0, .int .i64 0, .int .i64 0] 25))
      have Toc := Lib.hid (Blk.new 25 #[.int .i64 0, .int .i64 0, .int .i64 0, .int .i64 0, .int .i64 0, .int .i64 0] W2)
      clear hszoc
      refine hK.out _ _ Poc.out (fun hHeld => ?_)
      clear hK K
      try simp only [Act.put]
      generalize W2.alloc (.cells #[.int .i64 0, .int .i64 0, .int .i64 0, .int .i64 0, .int .i64 0, .int .i64 0] 25) = Voc at *
      generalize W2.heap.size = boc at *
      refine wpAnyE_ready (rs := [1]) (by kernel_rfl) (by simp) ?_
      refine AllReadyE.cons (i := 1) rfl (by decide) (fun K hK => ?_) AllReadyE.nil
      go_simp
      refine (pick p _ 20 Voc Coc.out (by omega) (by omega) (by omega)).mono ?_
      rintro e Woca ⟨i, rfl, i0, i1, hc, hg⟩
      have Poca := Lib.hid (Poc.out.grown hg (Nat.ne_of_gt hpp))
      have Zoca := Lib.hid (Zoc.out.grown hg (Nat.ne_of_gt hzp))
      have Goca := Lib.hid (grown_trans Goc.out hg)
      have Coca := Lib.hid hc
      have Toca := Lib.hid (Toc.out.grown hg (Nat.ne_of_gt htp))
      clear hc hg
      refine hK.out _ _ Poca.out (fun hHeld => ?_)
      clear hK K
      try simp only [Act.put]
      refine wpAnyE_take (i := 2) (v := ?vqoca2) rfl (by decide +kernel) (fun _ _ _ h => h) (Or.inl ⟨by rfl, ?hqoca2⟩) (by assumption) ?rqoca2
      case hqoca2 =>
        intro wS hSw
        have h0 := hSw.cell 0 _ rfl
        have h1 := hSw.cell 1 _ rfl
        go_simp
        try with_reducible rfl
      try simp only [Act.put]
      refine wpAnyE_ready (rs := [4]) (by kernel_rfl) (by simp) ?_
      refine AllReadyE.cons (i := 4) rfl (by decide) (fun K hK => ?_) AllReadyE.nil
      go_simp
      refine (pick p _ 3 Woca Coca.out (by omega) (by omega) (by omega)).mono ?_
      rintro e Wocab ⟨s, rfl, s0, s1, hc, hg⟩
      have Pocab := Lib.hid (Poca.out.grown hg (Nat.ne_of_gt hpp))
      have Zocab := Lib.hid (Zoca.out.grown hg (Nat.ne_of_gt hzp))
      have Gocab := Lib.hid (grown_trans Goca.out hg)
      have Cocab := Lib.hid hc
      have Tocab := Lib.hid (Toca.out.grown hg (Nat.ne_of_gt htp))
      clear hc hg
      refine hK.out _ _ Pocab.out (fun hHeld => ?_)
      clear hK K
      try simp only [Act.put]
      refine wpAnyE_take (i := 5) (v := ?vqocab5) rfl (by decide +kernel) (fun _ _ _ h => h) (Or.inl ⟨by rfl, ?hqocab5⟩) (by assumption) ?rqocab5
      case hqocab5 =>
        intro wS hSw
        have h0 := hSw.cell 0 _ rfl
        have h1 := hSw.cell 1 _ rfl
        go_simp
        try with_reducible rfl
      try simp only [Act.put]
      refine wpAnyE_take (i := 10) (v := ?vqocab10) rfl (by decide +kernel) (fun _ _ _ h => h) (Or.inl ⟨by rfl, ?hqocab10⟩) (by assumption) ?rqocab10
      case hqocab10 =>
        intro wS hSw
        have h0 := hSw.cell 0 _ rfl
        have h1 := hSw.cell 1 _ rfl
        go_simp
        try with_reducible rfl
      try simp only [Act.put]
      have s0 : Wocab.cell? ⟨boc, 0, none⟩ = some (.int .i64 0) := Tocab.out.cell 0 _ rfl
      have sf0 := Tocab.out.frozen 0
      have s1 : Wocab.cell? ⟨boc, 1, none⟩ = some (.int .i64 0) := Tocab.out.cell 1 _ rfl
      have sf1 := Tocab.out.frozen 1
      have s2 : Wocab.cell? ⟨boc, 2, none⟩ = some (.int .i64 0) := Tocab.out.cell 2 _ rfl
      have sf2 := Tocab.out.frozen 2
      have s3 : Wocab.cell? ⟨boc, 3, none⟩ = some (.int .i64 0) := Tocab.out.cell 3 _ rfl
      have sf3 := Tocab.out.frozen 3
      have s4 : Wocab.cell? ⟨boc, 4, none⟩ = some (.int .i64 0) := Tocab.out.cell 4 _ rfl
      have sf4 := Tocab.out.frozen 4
      have s5 : Wocab.cell? ⟨boc, 5, none⟩ = some (.int .i64 0) := Tocab.out.cell 5 _ rfl
      have sf5 := Tocab.out.frozen 5
      refine wpAnyE_ready (rs := [12]) (by kernel_rfl) (by simp) ?_
      refine AllReadyE.last (i := 12) rfl rfl (fun K hK => ?_)
      go_simp
      refine hK.out _ _ ?_
      clear hK K
      try simp only [Act.put]
      refine wpAnyE_done (by kernel_rfl) ?_ _
      try simp only [List.getElem_toArray, List.getElem_cons_succ, List.getElem_cons_zero, List.setIfInBounds_toArray, List.set_cons_succ, List.set_cons_zero]
      go_wp2_with fail
      go_meet
      exact ⟨_, _, _, rfl, htp, hzt, ((((((Tocab.out.set 0 (.int .i64 (IntKind.i64.wrap (1 + i)))).set 1 (.int .i64 (IntKind.i64.wrap (1 + s)))).set 2 (.int .i64 x)).set 3 (.int .i64 y)).set 4 (.int .i64 0)).set 5 (.int .i64 0)), ((((((Zocab.out.other (Nat.ne_of_lt hzt) 0 (.int .i64 (IntKind.i64.wrap (1 + i)))).other (Nat.ne_of_lt hzt) 1 (.int .i64 (IntKind.i64.wrap (1 + s)))).other (Nat.ne_of_lt hzt) 2 (.int .i64 x)).other (Nat.ne_of_lt hzt) 3 (.int .i64 y)).other (Nat.ne_of_lt hzt) 4 (.int .i64 0)).other (Nat.ne_of_lt hzt) 5 (.int .i64 0)), (Cur.set (Cur.set (Cur.set (Cur.set (Cur.set (Cur.set Cocab.out htp (i := 0) (v := .int .i64 (IntKind.i64.wrap (1 + i)))) htp (i := 1) (v := .int .i64 (IntKind.i64.wrap (1 + s)))) htp (i := 2) (v := .int .i64 x)) htp (i := 3) (v := .int .i64 y)) htp (i := 4) (v := .int .i64 0)) htp (i := 5) (v := .int .i64 0)).more (by omega), (grown_put (grown_put (grown_put (grown_put (grown_put (grown_put Gocab.out (Nat.le_of_lt hzt) (i := 0) (v := .int .i64 (IntKind.i64.wrap (1 + i)))) (Nat.le_of_lt hzt) (i := 1) (v := .int .i64 (IntKind.i64.wrap (1 + s)))) (Nat.le_of_lt hzt) (i := 2) (v := .int .i64 x)) (Nat.le_of_lt hzt) (i := 3) (v := .int .i64 y)) (Nat.le_of_lt hzt) (i := 4) (v := .int .i64 0)) (Nat.le_of_lt hzt) (i := 5) (v := .int .i64 0))⟩
  case rest =>
    obtain ⟨b, i, s, rfl, htp, hzt, hT, hZ, hC, hG⟩ := hcut
    have HT := Lib.hid hT
    have HZ := Lib.hid hZ
    have HC := Lib.hid hC
    have HG := Lib.hid hG
    clear hT hZ hC hG P2 Z1 C2 G2
    have t0 : wc.cell? ⟨b, 0, none⟩ = some (.int .i64 i) := HT.out.cell 0 _ rfl
    have tf0 := HT.out.frozen 0
    have t1 : wc.cell? ⟨b, 1, none⟩ = some (.int .i64 s) := HT.out.cell 1 _ rfl
    have tf1 := HT.out.frozen 1
    have t2 : wc.cell? ⟨b, 2, none⟩ = some (.int .i64 x) := HT.out.cell 2 _ rfl
    have tf2 := HT.out.frozen 2
    have t3 : wc.cell? ⟨b, 3, none⟩ = some (.int .i64 y) := HT.out.cell 3 _ rfl
    have tf3 := HT.out.frozen 3
    have t4 : wc.cell? ⟨b, 4, none⟩ = some (.int .i64 0) := HT.out.cell 4 _ rfl
    have tf4 := HT.out.frozen 4
    have t5 : wc.cell? ⟨b, 5, none⟩ = some (.int .i64 0) := HT.out.cell 5 _ rfl
    have tf5 := HT.out.frozen 5
    by_cases g1 : s = 1
    · subst g1
      go_wp2_with fail
      refine (pick p _ 2 wc HC.out (by omega) (by omega) (by omega)).mono ?_
      rintro e wr ⟨r, rfl, r0, r1, hc, hg⟩
      clear t0 tf0 t1 tf1 t2 tf2 t3 tf3 t4 tf4 t5 tf5
      have HT := Lib.hid (HT.out.grown hg (Nat.ne_of_gt htp))
      have HZ := Lib.hid (HZ.out.grown hg (Nat.ne_of_gt hzp))
      have HC := Lib.hid hc
      have HG := Lib.hid (grown_trans HG.out hg)
      clear hc hg
      have e1 : IntKind.i64.wrap (1 + r) = 1 + r := IntWalk.i64_in _ (by omega)
      have t0 : wr.cell? ⟨b, 0, none⟩ = some (.int .i64 i) := HT.out.cell 0 _ rfl
      have tf0 := HT.out.frozen 0
      have t1 : wr.cell? ⟨b, 1, none⟩ = some (.int .i64 1) := HT.out.cell 1 _ rfl
      have tf1 := HT.out.frozen 1
      have t2 : wr.cell? ⟨b, 2, none⟩ = some (.int .i64 x) := HT.out.cell 2 _ rfl
      have tf2 := HT.out.frozen 2
      have t3 : wr.cell? ⟨b, 3, none⟩ = some (.int .i64 y) := HT.out.cell 3 _ rfl
      have tf3 := HT.out.frozen 3
      have t4 : wr.cell? ⟨b, 4, none⟩ = some (.int .i64 0) := HT.out.cell 4 _ rfl
      have tf4 := HT.out.frozen 4
      have t5 : wr.cell? ⟨b, 5, none⟩ = some (.int .i64 0) := HT.out.cell 5 _ rfl
      have tf5 := HT.out.frozen 5
      go_upto_region 10 with fail
      clear t0 tf0 t1 tf1 t2 tf2 t3 tf3 t4 tf4 t5 tf5
      have HT := Lib.hid (HT.out.set 4 (.int .i64 (1 + r)))
      have HZ := Lib.hid (HZ.out.other (Nat.ne_of_lt hzt) 4 (.int .i64 (1 + r)))
      have HC := Lib.hid (Cur.set HC.out htp (i := 4) (v := .int .i64 (1 + r)))
      have HG := Lib.hid (grown_put HG.out (Nat.le_of_lt hzt) (i := 4) (v := .int .i64 (1 + r)))
      generalize wr.setCell ⟨b, 4, none⟩ (.int .i64 (1 + r)) = wrv at *
      generalize 1 + r = c4 at *
      clear e1 r0 r1
      have t0 : wrv.cell? ⟨b, 0, none⟩ = some (.int .i64 i) := HT.out.cell 0 _ rfl
      have tf0 := HT.out.frozen 0
      have t1 : wrv.cell? ⟨b, 1, none⟩ = some (.int .i64 1) := HT.out.cell 1 _ rfl
      have tf1 := HT.out.frozen 1
      have t2 : wrv.cell? ⟨b, 2, none⟩ = some (.int .i64 x) := HT.out.cell 2 _ rfl
      have tf2 := HT.out.frozen 2
      have t3 : wrv.cell? ⟨b, 3, none⟩ = some (.int .i64 y) := HT.out.cell 3 _ rfl
      have tf3 := HT.out.frozen 3
      have t4 : wrv.cell? ⟨b, 4, none⟩ = some (.int .i64 c4) := HT.out.cell 4 _ rfl
      have tf4 := HT.out.frozen 4
      have t5 : wrv.cell? ⟨b, 5, none⟩ = some (.int .i64 0) := HT.out.cell 5 _ rfl
      have tf5 := HT.out.frozen 5
      go_upto_region 10 with fail
      clear t0 tf0 t1 tf1 t2 tf2 t3 tf3 t4 tf4 t5 tf5
      go_wp2_with fail
      refine (pick p _ 24 wrv HC.out (by omega) (by omega) (by omega)).mono ?_
      rintro e wk ⟨k, rfl, k0, k1, hc, hg⟩
      have HT := Lib.hid (HT.out.grown hg (Nat.ne_of_gt htp))
      have HZ := Lib.hid (HZ.out.grown hg (Nat.ne_of_gt hzp))
      have HC := Lib.hid hc
      have HG := Lib.hid (grown_trans HG.out hg)
      clear hc hg
      by_cases h0 : k = 0
      · subst h0
        go_wp2_with fail
        refine (among_new (0) 10000 p _ 5 [0, 2, 3, 9999, 10000] _ wk HC.out (by omega) (by omega) (by omega) rfl rfl (by decide)).mono ?_
        rintro e wu ⟨u, rfl, u0, u1, hc, hg⟩
        have HT := Lib.hid (HT.out.grown hg (Nat.ne_of_gt htp))
        have HZ := Lib.hid (HZ.out.grown hg (Nat.ne_of_gt hzp))
        have HC := Lib.hid hc
        have HG := Lib.hid (grown_trans HG.out hg)
        clear hc hg
        have t0 : wu.cell? ⟨b, 0, none⟩ = some (.int .i64 i) := HT.out.cell 0 _ rfl
        have tf0 := HT.out.frozen 0
        have t1 : wu.cell? ⟨b, 1, none⟩ = some (.int .i64 1) := HT.out.cell 1 _ rfl
        have tf1 := HT.out.frozen 1
        have t2 : wu.cell? ⟨b, 2, none⟩ = some (.int .i64 x) := HT.out.cell 2 _ rfl
        have tf2 := HT.out.frozen 2
        have t3 : wu.cell? ⟨b, 3, none⟩ = some (.int .i64 y) := HT.out.cell 3 _ rfl
        have tf3 := HT.out.frozen 3
        have t4 : wu.cell? ⟨b, 4, none⟩ = some (.int .i64 c4) := HT.out.cell 4 _ rfl
        have tf4 := HT.out.frozen 4
        have t5 : wu.cell? ⟨b, 5, none⟩ = some (.int .i64 0) := HT.out.cell 5 _ rfl
        have tf5 := HT.out.frozen 5
        go_upto_region 19 with fail
        clear t0 tf0 t1 tf1 t2 tf2 t3 tf3 t4 tf4 t5 tf5
        have HT := Lib.hid (HT.out.set 4 (.int .i64 u))
        have HZ := Lib.hid (HZ.out.other (Nat.ne_of_lt hzt) 4 (.int .i64 u))
        have HC := Lib.hid (Cur.set HC.out htp (i := 4) (v := .int .i64 u))
        have HG := Lib.hid (grown_put HG.out (Nat.le_of_lt hzt) (i := 4) (v := .int .i64 u))
        generalize wu.setCell ⟨b, 4, none⟩ (.int .i64 u) = wv at *
        have z0 : wv.cell? ⟨w.heap.size, 0, none⟩ = some (.int .i64 0) := HZ.out.cell 0 _ rfl
        have zf0 := HZ.out.frozen 0
        have z1 : wv.cell? ⟨w.heap.size, 1, none⟩ = some (.int .i64 0) := HZ.out.cell 1 _ rfl
        have zf1 := HZ.out.frozen 1
        have z2 : wv.cell? ⟨w.heap.size, 2, none⟩ = some (.int .i64 0) := HZ.out.cell 2 _ rfl
        have zf2 := HZ.out.frozen 2
        have z3 : wv.cell? ⟨w.heap.size, 3, none⟩ = some (.int .i64 0) := HZ.out.cell 3 _ rfl
        have zf3 := HZ.out.frozen 3
        have z4 : wv.cell? ⟨w.heap.size, 4, none⟩ = some (.int .i64 0) := HZ.out.cell 4 _ rfl
        have zf4 := HZ.out.frozen 4
        have z5 : wv.cell? ⟨w.heap.size, 5, none⟩ = some (.int .i64 0) := HZ.out.cell 5 _ rfl
        have zf5 := HZ.out.frozen 5
        have t0 : wv.cell? ⟨b, 0, none⟩ = some (.int .i64 i) := HT.out.cell 0 _ rfl
        have tf0 := HT.out.frozen 0
        have t1 : wv.cell? ⟨b, 1, none⟩ = some (.int .i64 1) := HT.out.cell 1 _ rfl
        have tf1 := HT.out.frozen 1
        have t2 : wv.cell? ⟨b, 2, none⟩ = some (.int .i64 x) := HT.out.cell 2 _ rfl
        have tf2 := HT.out.frozen 2
        have t3 : wv.cell? ⟨b, 3, none⟩ = some (.int .i64 y) := HT.out.cell 3 _ rfl
        have tf3 := HT.out.frozen 3
        have t4 : wv.cell? ⟨b, 4, none⟩ = some (.int .i64 u) := HT.out.cell 4 _ rfl
        have tf4 := HT.out.frozen 4
        have t5 : wv.cell? ⟨b, 5, none⟩ = some (.int .i64 0) := HT.out.cell 5 _ rfl
        have tf5 := HT.out.frozen 5
        have HE := Lib.hid ((((((HZ.out.set 0 (.int .i64 i)).set 1 (.int .i64 1)).set 2 (.int .i64 x)).set 3 (.int .i64 y)).set 4 (.int .i64 u)).set 5 (.int .i64 0))
        have HCe := Lib.hid (Cur.set (Cur.set (Cur.set (Cur.set (Cur.set (Cur.set HC.out hzp (i := 0) (v := .int .i64 i)) hzp (i := 1) (v := .int .i64 1)) hzp (i := 2) (v := .int .i64 x)) hzp (i := 3) (v := .int .i64 y)) hzp (i := 4) (v := .int .i64 u)) hzp (i := 5) (v := .int .i64 0))
        have HGe := Lib.hid (grown_put (grown_put (grown_put (grown_put (grown_put (grown_put HG.out (Nat.le_refl _) (i := 0) (v := .int .i64 i)) (Nat.le_refl _) (i := 1) (v := .int .i64 1)) (Nat.le_refl _) (i := 2) (v := .int .i64 x)) (Nat.le_refl _) (i := 3) (v := .int .i64 y)) (Nat.le_refl _) (i := 4) (v := .int .i64 u)) (Nat.le_refl _) (i := 5) (v := .int .i64 0))
        clear HT HZ HC HG
        go_wp2_with fail
        have hl := HE.out.load Tryz.underlying25 rfl (by kernel_rfl)
        refine bodyPost_ret (v := .agg #[.int .i64 i, .int .i64 1, .int .i64 x, .int .i64 y, .int .i64 u, .int .i64 0]) ?_ rfl ⟨_, _, _, _, _, _, rfl, HCe.out.more (by omega), HGe.out⟩
        rw [ats.results_cell1 rfl]
        simp [asAddr, Result.andThen, hl]
      have d0 : (k == 0) = false := by simpa using h0
      by_cases h1 : k = 1
      · subst h1
        go_wp2_with fail
        refine (among_new (-1) 4 p _ 4 [0, 1, 4, -1] _ wk HC.out (by omega) (by omega) (by omega) rfl rfl (by decide)).mono ?_
        rintro e wu ⟨u, rfl, u0, u1, hc, hg⟩
        have HT := Lib.hid (HT.out.grown hg (Nat.ne_of_gt htp))
        have HZ := Lib.hid (HZ.out.grown hg (Nat.ne_of_gt hzp))
        have HC := Lib.hid hc
        have HG := Lib.hid (grown_trans HG.out hg)
        clear hc hg
        have t0 : wu.cell? ⟨b, 0, none⟩ = some (.int .i64 i) := HT.out.cell 0 _ rfl
        have tf0 := HT.out.frozen 0
        have t1 : wu.cell? ⟨b, 1, none⟩ = some (.int .i64 1) := HT.out.cell 1 _ rfl
        have tf1 := HT.out.frozen 1
        have t2 : wu.cell? ⟨b, 2, none⟩ = some (.int .i64 x) := HT.out.cell 2 _ rfl
        have tf2 := HT.out.frozen 2
        have t3 : wu.cell? ⟨b, 3, none⟩ = some (.int .i64 y) := HT.out.cell 3 _ rfl
        have tf3 := HT.out.frozen 3
        have t4 : wu.cell? ⟨b, 4, none⟩ = some (.int .i64 c4) := HT.out.cell 4 _ rfl
        have tf4 := HT.out.frozen 4
        have t5 : wu.cell? ⟨b, 5, none⟩ = some (.int .i64 0) := HT.out.cell 5 _ rfl
        have tf5 := HT.out.frozen 5
        go_upto_region 19 with fail
        clear t0 tf0 t1 tf1 t2 tf2 t3 tf3 t4 tf4 t5 tf5
        have HT := Lib.hid (HT.out.set 5 (.int .i64 u))
        have HZ := Lib.hid (HZ.out.other (Nat.ne_of_lt hzt) 5 (.int .i64 u))
        have HC := Lib.hid (Cur.set HC.out htp (i := 5) (v := .int .i64 u))
        have HG := Lib.hid (grown_put HG.out (Nat.le_of_lt hzt) (i := 5) (v := .int .i64 u))
        generalize wu.setCell ⟨b, 5, none⟩ (.int .i64 u) = wv at *
        have z0 : wv.cell? ⟨w.heap.size, 0, none⟩ = some (.int .i64 0) := HZ.out.cell 0 _ rfl
        have zf0 := HZ.out.frozen 0
        have z1 : wv.cell? ⟨w.heap.size, 1, none⟩ = some (.int .i64 0) := HZ.out.cell 1 _ rfl
        have zf1 := HZ.out.frozen 1
        have z2 : wv.cell? ⟨w.heap.size, 2, none⟩ = some (.int .i64 0) := HZ.out.cell 2 _ rfl
        have zf2 := HZ.out.frozen 2
        have z3 : wv.cell? ⟨w.heap.size, 3, none⟩ = some (.int .i64 0) := HZ.out.cell 3 _ rfl
        have zf3 := HZ.out.frozen 3
        have z4 : wv.cell? ⟨w.heap.size, 4, none⟩ = some (.int .i64 0) := HZ.out.cell 4 _ rfl
        have zf4 := HZ.out.frozen 4
        have z5 : wv.cell? ⟨w.heap.size, 5, none⟩ = some (.int .i64 0) := HZ.out.cell 5 _ rfl
        have zf5 := HZ.out.frozen 5
        have t0 : wv.cell? ⟨b, 0, none⟩ = some (.int .i64 i) := HT.out.cell 0 _ rfl
        have tf0 := HT.out.frozen 0
        have t1 : wv.cell? ⟨b, 1, none⟩ = some (.int .i64 1) := HT.out.cell 1 _ rfl
        have tf1 := HT.out.frozen 1
        have t2 : wv.cell? ⟨b, 2, none⟩ = some (.int .i64 x) := HT.out.cell 2 _ rfl
        have tf2 := HT.out.frozen 2
        have t3 : wv.cell? ⟨b, 3, none⟩ = some (.int .i64 y) := HT.out.cell 3 _ rfl
        have tf3 := HT.out.frozen 3
        have t4 : wv.cell? ⟨b, 4, none⟩ = some (.int .i64 c4) := HT.out.cell 4 _ rfl
        have tf4 := HT.out.frozen 4
        have t5 : wv.cell? ⟨b, 5, none⟩ = some (.int .i64 u) := HT.out.cell 5 _ rfl
        have tf5 := HT.out.frozen 5
        have HE := Lib.hid ((((((HZ.out.set 0 (.int .i64 i)).set 1 (.int .i64 1)).set 2 (.int .i64 x)).set 3 (.int .i64 y)).set 4 (.int .i64 c4)).set 5 (.int .i64 u))
        have HCe := Lib.hid (Cur.set (Cur.set (Cur.set (Cur.set (Cur.set (Cur.set HC.out hzp (i := 0) (v := .int .i64 i)) hzp (i := 1) (v := .int .i64 1)) hzp (i := 2) (v := .int .i64 x)) hzp (i := 3) (v := .int .i64 y)) hzp (i := 4) (v := .int .i64 c4)) hzp (i := 5) (v := .int .i64 u))
        have HGe := Lib.hid (grown_put (grown_put (grown_put (grown_put (grown_put (grown_put HG.out (Nat.le_refl _) (i := 0) (v := .int .i64 i)) (Nat.le_refl _) (i := 1) (v := .int .i64 1)) (Nat.le_refl _) (i := 2) (v := .int .i64 x)) (Nat.le_refl _) (i := 3) (v := .int .i64 y)) (Nat.le_refl _) (i := 4) (v := .int .i64 c4)) (Nat.le_refl _) (i := 5) (v := .int .i64 u))
        clear HT HZ HC HG
        go_wp2_with fail
        have hl := HE.out.load Tryz.underlying25 rfl (by kernel_rfl)
        refine bodyPost_ret (v := .agg #[.int .i64 i, .int .i64 1, .int .i64 x, .int .i64 y, .int .i64 c4, .int .i64 u]) ?_ rfl ⟨_, _, _, _, _, _, rfl, HCe.out.more (by omega), HGe.out⟩
        rw [ats.results_cell1 rfl]
        simp [asAddr, Result.andThen, hl]
      have d1 : (k == 1) = false := by simpa using h1
      by_cases h2 : k = 2
      · subst h2
        go_wp2_with fail
        refine (among_new (-1) 9900 p _ 3 [-1, 9900, 9899] _ wk HC.out (by omega) (by omega) (by omega) rfl rfl (by decide)).mono ?_
        rintro e wu ⟨u, rfl, u0, u1, hc, hg⟩
        have HT := Lib.hid (HT.out.grown hg (Nat.ne_of_gt htp))
        have HZ := Lib.hid (HZ.out.grown hg (Nat.ne_of_gt hzp))
        have HC := Lib.hid hc
        have HG := Lib.hid (grown_trans HG.out hg)
        clear hc hg
        have t0 : wu.cell? ⟨b, 0, none⟩ = some (.int .i64 i) := HT.out.cell 0 _ rfl
        have tf0 := HT.out.frozen 0
        have t1 : wu.cell? ⟨b, 1, none⟩ = some (.int .i64 1) := HT.out.cell 1 _ rfl
        have tf1 := HT.out.frozen 1
        have t2 : wu.cell? ⟨b, 2, none⟩ = some (.int .i64 x) := HT.out.cell 2 _ rfl
        have tf2 := HT.out.frozen 2
        have t3 : wu.cell? ⟨b, 3, none⟩ = some (.int .i64 y) := HT.out.cell 3 _ rfl
        have tf3 := HT.out.frozen 3
        have t4 : wu.cell? ⟨b, 4, none⟩ = some (.int .i64 c4) := HT.out.cell 4 _ rfl
        have tf4 := HT.out.frozen 4
        have t5 : wu.cell? ⟨b, 5, none⟩ = some (.int .i64 0) := HT.out.cell 5 _ rfl
        have tf5 := HT.out.frozen 5
        go_upto_region 19 with fail
        clear t0 tf0 t1 tf1 t2 tf2 t3 tf3 t4 tf4 t5 tf5
        have HT := Lib.hid (HT.out.set 2 (.int .i64 u))
        have HZ := Lib.hid (HZ.out.other (Nat.ne_of_lt hzt) 2 (.int .i64 u))
        have HC := Lib.hid (Cur.set HC.out htp (i := 2) (v := .int .i64 u))
        have HG := Lib.hid (grown_put HG.out (Nat.le_of_lt hzt) (i := 2) (v := .int .i64 u))
        generalize wu.setCell ⟨b, 2, none⟩ (.int .i64 u) = wv at *
        have z0 : wv.cell? ⟨w.heap.size, 0, none⟩ = some (.int .i64 0) := HZ.out.cell 0 _ rfl
        have zf0 := HZ.out.frozen 0
        have z1 : wv.cell? ⟨w.heap.size, 1, none⟩ = some (.int .i64 0) := HZ.out.cell 1 _ rfl
        have zf1 := HZ.out.frozen 1
        have z2 : wv.cell? ⟨w.heap.size, 2, none⟩ = some (.int .i64 0) := HZ.out.cell 2 _ rfl
        have zf2 := HZ.out.frozen 2
        have z3 : wv.cell? ⟨w.heap.size, 3, none⟩ = some (.int .i64 0) := HZ.out.cell 3 _ rfl
        have zf3 := HZ.out.frozen 3
        have z4 : wv.cell? ⟨w.heap.size, 4, none⟩ = some (.int .i64 0) := HZ.out.cell 4 _ rfl
        have zf4 := HZ.out.frozen 4
        have z5 : wv.cell? ⟨w.heap.size, 5, none⟩ = some (.int .i64 0) := HZ.out.cell 5 _ rfl
        have zf5 := HZ.out.frozen 5
        have t0 : wv.cell? ⟨b, 0, none⟩ = some (.int .i64 i) := HT.out.cell 0 _ rfl
        have tf0 := HT.out.frozen 0
        have t1 : wv.cell? ⟨b, 1, none⟩ = some (.int .i64 1) := HT.out.cell 1 _ rfl
        have tf1 := HT.out.frozen 1
        have t2 : wv.cell? ⟨b, 2, none⟩ = some (.int .i64 u) := HT.out.cell 2 _ rfl
        have tf2 := HT.out.frozen 2
        have t3 : wv.cell? ⟨b, 3, none⟩ = some (.int .i64 y) := HT.out.cell 3 _ rfl
        have tf3 := HT.out.frozen 3
        have t4 : wv.cell? ⟨b, 4, none⟩ = some (.int .i64 c4) := HT.out.cell 4 _ rfl
        have tf4 := HT.out.frozen 4
        have t5 : wv.cell? ⟨b, 5, none⟩ = some (.int .i64 0) := HT.out.cell 5 _ rfl
        have tf5 := HT.out.frozen 5
        have HE := Lib.hid ((((((HZ.out.set 0 (.int .i64 i)).set 1 (.int .i64 1)).set 2 (.int .i64 u)).set 3 (.int .i64 y)).set 4 (.int .i64 c4)).set 5 (.int .i64 0))
        have HCe := Lib.hid (Cur.set (Cur.set (Cur.set (Cur.set (Cur.set (Cur.set HC.out hzp (i := 0) (v := .int .i64 i)) hzp (i := 1) (v := .int .i64 1)) hzp (i := 2) (v := .int .i64 u)) hzp (i := 3) (v := .int .i64 y)) hzp (i := 4) (v := .int .i64 c4)) hzp (i := 5) (v := .int .i64 0))
        have HGe := Lib.hid (grown_put (grown_put (grown_put (grown_put (grown_put (grown_put HG.out (Nat.le_refl _) (i := 0) (v := .int .i64 i)) (Nat.le_refl _) (i := 1) (v := .int .i64 1)) (Nat.le_refl _) (i := 2) (v := .int .i64 u)) (Nat.le_refl _) (i := 3) (v := .int .i64 y)) (Nat.le_refl _) (i := 4) (v := .int .i64 c4)) (Nat.le_refl _) (i := 5) (v := .int .i64 0))
        clear HT HZ HC HG
        go_wp2_with fail
        have hl := HE.out.load Tryz.underlying25 rfl (by kernel_rfl)
        refine bodyPost_ret (v := .agg #[.int .i64 i, .int .i64 1, .int .i64 u, .int .i64 y, .int .i64 c4, .int .i64 0]) ?_ rfl ⟨_, _, _, _, _, _, rfl, HCe.out.more (by omega), HGe.out⟩
        rw [ats.results_cell1 rfl]
        simp [asAddr, Result.andThen, hl]
      have d2 : (k == 2) = false := by simpa using h2
      by_cases h3 : k = 3
      · subst h3
        go_wp2_with fail
        refine (among_new (0) 4 p _ 2 [0, 4] _ wk HC.out (by omega) (by omega) (by omega) rfl rfl (by decide)).mono ?_
        rintro e wu ⟨u, rfl, u0, u1, hc, hg⟩
        have HT := Lib.hid (HT.out.grown hg (Nat.ne_of_gt htp))
        have HZ := Lib.hid (HZ.out.grown hg (Nat.ne_of_gt hzp))
        have HC := Lib.hid hc
        have HG := Lib.hid (grown_trans HG.out hg)
        clear hc hg
        have t0 : wu.cell? ⟨b, 0, none⟩ = some (.int .i64 i) := HT.out.cell 0 _ rfl
        have tf0 := HT.out.frozen 0
        have t1 : wu.cell? ⟨b, 1, none⟩ = some (.int .i64 1) := HT.out.cell 1 _ rfl
        have tf1 := HT.out.frozen 1
        have t2 : wu.cell? ⟨b, 2, none⟩ = some (.int .i64 x) := HT.out.cell 2 _ rfl
        have tf2 := HT.out.frozen 2
        have t3 : wu.cell? ⟨b, 3, none⟩ = some (.int .i64 y) := HT.out.cell 3 _ rfl
        have tf3 := HT.out.frozen 3
        have t4 : wu.cell? ⟨b, 4, none⟩ = some (.int .i64 c4) := HT.out.cell 4 _ rfl
        have tf4 := HT.out.frozen 4
        have t5 : wu.cell? ⟨b, 5, none⟩ = some (.int .i64 0) := HT.out.cell 5 _ rfl
        have tf5 := HT.out.frozen 5
        go_upto_region 19 with fail
        clear t0 tf0 t1 tf1 t2 tf2 t3 tf3 t4 tf4 t5 tf5
        have HT := Lib.hid (HT.out.set 1 (.int .i64 u))
        have HZ := Lib.hid (HZ.out.other (Nat.ne_of_lt hzt) 1 (.int .i64 u))
        have HC := Lib.hid (Cur.set HC.out htp (i := 1) (v := .int .i64 u))
        have HG := Lib.hid (grown_put HG.out (Nat.le_of_lt hzt) (i := 1) (v := .int .i64 u))
        generalize wu.setCell ⟨b, 1, none⟩ (.int .i64 u) = wv at *
        have z0 : wv.cell? ⟨w.heap.size, 0, none⟩ = some (.int .i64 0) := HZ.out.cell 0 _ rfl
        have zf0 := HZ.out.frozen 0
        have z1 : wv.cell? ⟨w.heap.size, 1, none⟩ = some (.int .i64 0) := HZ.out.cell 1 _ rfl
        have zf1 := HZ.out.frozen 1
        have z2 : wv.cell? ⟨w.heap.size, 2, none⟩ = some (.int .i64 0) := HZ.out.cell 2 _ rfl
        have zf2 := HZ.out.frozen 2
        have z3 : wv.cell? ⟨w.heap.size, 3, none⟩ = some (.int .i64 0) := HZ.out.cell 3 _ rfl
        have zf3 := HZ.out.frozen 3
        have z4 : wv.cell? ⟨w.heap.size, 4, none⟩ = some (.int .i64 0) := HZ.out.cell 4 _ rfl
        have zf4 := HZ.out.frozen 4
        have z5 : wv.cell? ⟨w.heap.size, 5, none⟩ = some (.int .i64 0) := HZ.out.cell 5 _ rfl
        have zf5 := HZ.out.frozen 5
        have t0 : wv.cell? ⟨b, 0, none⟩ = some (.int .i64 i) := HT.out.cell 0 _ rfl
        have tf0 := HT.out.frozen 0
        have t1 : wv.cell? ⟨b, 1, none⟩ = some (.int .i64 u) := HT.out.cell 1 _ rfl
        have tf1 := HT.out.frozen 1
        have t2 : wv.cell? ⟨b, 2, none⟩ = some (.int .i64 x) := HT.out.cell 2 _ rfl
        have tf2 := HT.out.frozen 2
        have t3 : wv.cell? ⟨b, 3, none⟩ = some (.int .i64 y) := HT.out.cell 3 _ rfl
        have tf3 := HT.out.frozen 3
        have t4 : wv.cell? ⟨b, 4, none⟩ = some (.int .i64 c4) := HT.out.cell 4 _ rfl
        have tf4 := HT.out.frozen 4
        have t5 : wv.cell? ⟨b, 5, none⟩ = some (.int .i64 0) := HT.out.cell 5 _ rfl
        have tf5 := HT.out.frozen 5
        have HE := Lib.hid ((((((HZ.out.set 0 (.int .i64 i)).set 1 (.int .i64 u)).set 2 (.int .i64 x)).set 3 (.int .i64 y)).set 4 (.int .i64 c4)).set 5 (.int .i64 0))
        have HCe := Lib.hid (Cur.set (Cur.set (Cur.set (Cur.set (Cur.set (Cur.set HC.out hzp (i := 0) (v := .int .i64 i)) hzp (i := 1) (v := .int .i64 u)) hzp (i := 2) (v := .int .i64 x)) hzp (i := 3) (v := .int .i64 y)) hzp (i := 4) (v := .int .i64 c4)) hzp (i := 5) (v := .int .i64 0))
        have HGe := Lib.hid (grown_put (grown_put (grown_put (grown_put (grown_put (grown_put HG.out (Nat.le_refl _) (i := 0) (v := .int .i64 i)) (Nat.le_refl _) (i := 1) (v := .int .i64 u)) (Nat.le_refl _) (i := 2) (v := .int .i64 x)) (Nat.le_refl _) (i := 3) (v := .int .i64 y)) (Nat.le_refl _) (i := 4) (v := .int .i64 c4)) (Nat.le_refl _) (i := 5) (v := .int .i64 0))
        clear HT HZ HC HG
        go_wp2_with fail
        have hl := HE.out.load Tryz.underlying25 rfl (by kernel_rfl)
        refine bodyPost_ret (v := .agg #[.int .i64 i, .int .i64 u, .int .i64 x, .int .i64 y, .int .i64 c4, .int .i64 0]) ?_ rfl ⟨_, _, _, _, _, _, rfl, HCe.out.more (by omega), HGe.out⟩
        rw [ats.results_cell1 rfl]
        simp [asAddr, Result.andThen, hl]
      have d3 : (k == 3) = false := by simpa using h3
      have z0 : wk.cell? ⟨w.heap.size, 0, none⟩ = some (.int .i64 0) := HZ.out.cell 0 _ rfl
      have zf0 := HZ.out.frozen 0
      have z1 : wk.cell? ⟨w.heap.size, 1, none⟩ = some (.int .i64 0) := HZ.out.cell 1 _ rfl
      have zf1 := HZ.out.frozen 1
      have z2 : wk.cell? ⟨w.heap.size, 2, none⟩ = some (.int .i64 0) := HZ.out.cell 2 _ rfl
      have zf2 := HZ.out.frozen 2
      have z3 : wk.cell? ⟨w.heap.size, 3, none⟩ = some (.int .i64 0) := HZ.out.cell 3 _ rfl
      have zf3 := HZ.out.frozen 3
      have z4 : wk.cell? ⟨w.heap.size, 4, none⟩ = some (.int .i64 0) := HZ.out.cell 4 _ rfl
      have zf4 := HZ.out.frozen 4
      have z5 : wk.cell? ⟨w.heap.size, 5, none⟩ = some (.int .i64 0) := HZ.out.cell 5 _ rfl
      have zf5 := HZ.out.frozen 5
      have t0 : wk.cell? ⟨b, 0, none⟩ = some (.int .i64 i) := HT.out.cell 0 _ rfl
      have tf0 := HT.out.frozen 0
      have t1 : wk.cell? ⟨b, 1, none⟩ = some (.int .i64 1) := HT.out.cell 1 _ rfl
      have tf1 := HT.out.frozen 1
      have t2 : wk.cell? ⟨b, 2, none⟩ = some (.int .i64 x) := HT.out.cell 2 _ rfl
      have tf2 := HT.out.frozen 2
      have t3 : wk.cell? ⟨b, 3, none⟩ = some (.int .i64 y) := HT.out.cell 3 _ rfl
      have tf3 := HT.out.frozen 3
      have t4 : wk.cell? ⟨b, 4, none⟩ = some (.int .i64 c4) := HT.out.cell 4 _ rfl
      have tf4 := HT.out.frozen 4
      have t5 : wk.cell? ⟨b, 5, none⟩ = some (.int .i64 0) := HT.out.cell 5 _ rfl
      have tf5 := HT.out.frozen 5
      have HE := Lib.hid ((((((HZ.out.set 0 (.int .i64 i)).set 1 (.int .i64 1)).set 2 (.int .i64 x)).set 3 (.int .i64 y)).set 4 (.int .i64 c4)).set 5 (.int .i64 0))
      have HCe := Lib.hid (Cur.set (Cur.set (Cur.set (Cur.set (Cur.set (Cur.set HC.out hzp (i := 0) (v := .int .i64 i)) hzp (i := 1) (v := .int .i64 1)) hzp (i := 2) (v := .int .i64 x)) hzp (i := 3) (v := .int .i64 y)) hzp (i := 4) (v := .int .i64 c4)) hzp (i := 5) (v := .int .i64 0))
      have HGe := Lib.hid (grown_put (grown_put (grown_put (grown_put (grown_put (grown_put HG.out (Nat.le_refl _) (i := 0) (v := .int .i64 i)) (Nat.le_refl _) (i := 1) (v := .int .i64 1)) (Nat.le_refl _) (i := 2) (v := .int .i64 x)) (Nat.le_refl _) (i := 3) (v := .int .i64 y)) (Nat.le_refl _) (i := 4) (v := .int .i64 c4)) (Nat.le_refl _) (i := 5) (v := .int .i64 0))
      clear HT HZ HC HG
      go_wp2_with fail
      have hl := HE.out.load Tryz.underlying25 rfl (by kernel_rfl)
      refine bodyPost_ret (v := .agg #[.int .i64 i, .int .i64 1, .int .i64 x, .int .i64 y, .int .i64 c4, .int .i64 0]) ?_ rfl ⟨_, _, _, _, _, _, rfl, HCe.out.more (by omega), HGe.out⟩
      rw [ats.results_cell1 rfl]
      simp [asAddr, Result.andThen, hl]
    have e_1 : (s == 1) = false := by simpa using g1
    by_cases g2 : s = 2
    · subst g2
      go_wp2_with fail
      refine (pick p _ 9 wc HC.out (by omega) (by omega) (by omega)).mono ?_
      rintro e wr ⟨r, rfl, r0, r1, hc, hg⟩
      clear t0 tf0 t1 tf1 t2 tf2 t3 tf3 t4 tf4 t5 tf5
      have HT := Lib.hid (HT.out.grown hg (Nat.ne_of_gt htp))
      have HZ := Lib.hid (HZ.out.grown hg (Nat.ne_of_gt hzp))
      have HC := Lib.hid hc
      have HG := Lib.hid (grown_trans HG.out hg)
      clear hc hg
      have e1 : IntKind.i64.wrap (3 + r) = 3 + r := IntWalk.i64_in _ (by omega)
      have t0 : wr.cell? ⟨b, 0, none⟩ = some (.int .i64 i) := HT.out.cell 0 _ rfl
      have tf0 := HT.out.frozen 0
      have t1 : wr.cell? ⟨b, 1, none⟩ = some (.int .i64 2) := HT.out.cell 1 _ rfl
      have tf1 := HT.out.frozen 1
      have t2 : wr.cell? ⟨b, 2, none⟩ = some (.int .i64 x) := HT.out.cell 2 _ rfl
      have tf2 := HT.out.frozen 2
      have t3 : wr.cell? ⟨b, 3, none⟩ = some (.int .i64 y) := HT.out.cell 3 _ rfl
      have tf3 := HT.out.frozen 3
      have t4 : wr.cell? ⟨b, 4, none⟩ = some (.int .i64 0) := HT.out.cell 4 _ rfl
      have tf4 := HT.out.frozen 4
      have t5 : wr.cell? ⟨b, 5, none⟩ = some (.int .i64 0) := HT.out.cell 5 _ rfl
      have tf5 := HT.out.frozen 5
      go_upto_region 10 with fail
      clear t0 tf0 t1 tf1 t2 tf2 t3 tf3 t4 tf4 t5 tf5
      have HT := Lib.hid (HT.out.set 4 (.int .i64 (3 + r)))
      have HZ := Lib.hid (HZ.out.other (Nat.ne_of_lt hzt) 4 (.int .i64 (3 + r)))
      have HC := Lib.hid (Cur.set HC.out htp (i := 4) (v := .int .i64 (3 + r)))
      have HG := Lib.hid (grown_put HG.out (Nat.le_of_lt hzt) (i := 4) (v := .int .i64 (3 + r)))
      generalize wr.setCell ⟨b, 4, none⟩ (.int .i64 (3 + r)) = wrv at *
      generalize 3 + r = c4 at *
      clear e1 r0 r1
      have t0 : wrv.cell? ⟨b, 0, none⟩ = some (.int .i64 i) := HT.out.cell 0 _ rfl
      have tf0 := HT.out.frozen 0
      have t1 : wrv.cell? ⟨b, 1, none⟩ = some (.int .i64 2) := HT.out.cell 1 _ rfl
      have tf1 := HT.out.frozen 1
      have t2 : wrv.cell? ⟨b, 2, none⟩ = some (.int .i64 x) := HT.out.cell 2 _ rfl
      have tf2 := HT.out.frozen 2
      have t3 : wrv.cell? ⟨b, 3, none⟩ = some (.int .i64 y) := HT.out.cell 3 _ rfl
      have tf3 := HT.out.frozen 3
      have t4 : wrv.cell? ⟨b, 4, none⟩ = some (.int .i64 c4) := HT.out.cell 4 _ rfl
      have tf4 := HT.out.frozen 4
      have t5 : wrv.cell? ⟨b, 5, none⟩ = some (.int .i64 0) := HT.out.cell 5 _ rfl
      have tf5 := HT.out.frozen 5
      go_upto_region 10 with fail
      clear t0 tf0 t1 tf1 t2 tf2 t3 tf3 t4 tf4 t5 tf5
      go_wp2_with fail
      refine (pick p _ 24 wrv HC.out (by omega) (by omega) (by omega)).mono ?_
      rintro e wk ⟨k, rfl, k0, k1, hc, hg⟩
      have HT := Lib.hid (HT.out.grown hg (Nat.ne_of_gt htp))
      have HZ := Lib.hid (HZ.out.grown hg (Nat.ne_of_gt hzp))
      have HC := Lib.hid hc
      have HG := Lib.hid (grown_trans HG.out hg)
      clear hc hg
      by_cases h0 : k = 0
      · subst h0
        go_wp2_with fail
        refine (among_new (0) 10000 p _ 5 [0, 2, 3, 9999, 10000] _ wk HC.out (by omega) (by omega) (by omega) rfl rfl (by decide)).mono ?_
        rintro e wu ⟨u, rfl, u0, u1, hc, hg⟩
        have HT := Lib.hid (HT.out.grown hg (Nat.ne_of_gt htp))
        have HZ := Lib.hid (HZ.out.grown hg (Nat.ne_of_gt hzp))
        have HC := Lib.hid hc
        have HG := Lib.hid (grown_trans HG.out hg)
        clear hc hg
        have t0 : wu.cell? ⟨b, 0, none⟩ = some (.int .i64 i) := HT.out.cell 0 _ rfl
        have tf0 := HT.out.frozen 0
        have t1 : wu.cell? ⟨b, 1, none⟩ = some (.int .i64 2) := HT.out.cell 1 _ rfl
        have tf1 := HT.out.frozen 1
        have t2 : wu.cell? ⟨b, 2, none⟩ = some (.int .i64 x) := HT.out.cell 2 _ rfl
        have tf2 := HT.out.frozen 2
        have t3 : wu.cell? ⟨b, 3, none⟩ = some (.int .i64 y) := HT.out.cell 3 _ rfl
        have tf3 := HT.out.frozen 3
        have t4 : wu.cell? ⟨b, 4, none⟩ = some (.int .i64 c4) := HT.out.cell 4 _ rfl
        have tf4 := HT.out.frozen 4
        have t5 : wu.cell? ⟨b, 5, none⟩ = some (.int .i64 0) := HT.out.cell 5 _ rfl
        have tf5 := HT.out.frozen 5
        go_upto_region 19 with fail
        clear t0 tf0 t1 tf1 t2 tf2 t3 tf3 t4 tf4 t5 tf5
        have HT := Lib.hid (HT.out.set 4 (.int .i64 u))
        have HZ := Lib.hid (HZ.out.other (Nat.ne_of_lt hzt) 4 (.int .i64 u))
        have HC := Lib.hid (Cur.set HC.out htp (i := 4) (v := .int .i64 u))
        have HG := Lib.hid (grown_put HG.out (Nat.le_of_lt hzt) (i := 4) (v := .int .i64 u))
        generalize wu.setCell ⟨b, 4, none⟩ (.int .i64 u) = wv at *
        have z0 : wv.cell? ⟨w.heap.size, 0, none⟩ = some (.int .i64 0) := HZ.out.cell 0 _ rfl
        have zf0 := HZ.out.frozen 0
        have z1 : wv.cell? ⟨w.heap.size, 1, none⟩ = some (.int .i64 0) := HZ.out.cell 1 _ rfl
        have zf1 := HZ.out.frozen 1
        have z2 : wv.cell? ⟨w.heap.size, 2, none⟩ = some (.int .i64 0) := HZ.out.cell 2 _ rfl
        have zf2 := HZ.out.frozen 2
        have z3 : wv.cell? ⟨w.heap.size, 3, none⟩ = some (.int .i64 0) := HZ.out.cell 3 _ rfl
        have zf3 := HZ.out.frozen 3
        have z4 : wv.cell? ⟨w.heap.size, 4, none⟩ = some (.int .i64 0) := HZ.out.cell 4 _ rfl
        have zf4 := HZ.out.frozen 4
        have z5 : wv.cell? ⟨w.heap.size, 5, none⟩ = some (.int .i64 0) := HZ.out.cell 5 _ rfl
        have zf5 := HZ.out.frozen 5
        have t0 : wv.cell? ⟨b, 0, none⟩ = some (.int .i64 i) := HT.out.cell 0 _ rfl
        have tf0 := HT.out.frozen 0
        have t1 : wv.cell? ⟨b, 1, none⟩ = some (.int .i64 2) := HT.out.cell 1 _ rfl
        have tf1 := HT.out.frozen 1
        have t2 : wv.cell? ⟨b, 2, none⟩ = some (.int .i64 x) := HT.out.cell 2 _ rfl
        have tf2 := HT.out.frozen 2
        have t3 : wv.cell? ⟨b, 3, none⟩ = some (.int .i64 y) := HT.out.cell 3 _ rfl
        have tf3 := HT.out.frozen 3
        have t4 : wv.cell? ⟨b, 4, none⟩ = some (.int .i64 u) := HT.out.cell 4 _ rfl
        have tf4 := HT.out.frozen 4
        have t5 : wv.cell? ⟨b, 5, none⟩ = some (.int .i64 0) := HT.out.cell 5 _ rfl
        have tf5 := HT.out.frozen 5
        have HE := Lib.hid ((((((HZ.out.set 0 (.int .i64 i)).set 1 (.int .i64 2)).set 2 (.int .i64 x)).set 3 (.int .i64 y)).set 4 (.int .i64 u)).set 5 (.int .i64 0))
        have HCe := Lib.hid (Cur.set (Cur.set (Cur.set (Cur.set (Cur.set (Cur.set HC.out hzp (i := 0) (v := .int .i64 i)) hzp (i := 1) (v := .int .i64 2)) hzp (i := 2) (v := .int .i64 x)) hzp (i := 3) (v := .int .i64 y)) hzp (i := 4) (v := .int .i64 u)) hzp (i := 5) (v := .int .i64 0))
        have HGe := Lib.hid (grown_put (grown_put (grown_put (grown_put (grown_put (grown_put HG.out (Nat.le_refl _) (i := 0) (v := .int .i64 i)) (Nat.le_refl _) (i := 1) (v := .int .i64 2)) (Nat.le_refl _) (i := 2) (v := .int .i64 x)) (Nat.le_refl _) (i := 3) (v := .int .i64 y)) (Nat.le_refl _) (i := 4) (v := .int .i64 u)) (Nat.le_refl _) (i := 5) (v := .int .i64 0))
        clear HT HZ HC HG
        go_wp2_with fail
        have hl := HE.out.load Tryz.underlying25 rfl (by kernel_rfl)
        refine bodyPost_ret (v := .agg #[.int .i64 i, .int .i64 2, .int .i64 x, .int .i64 y, .int .i64 u, .int .i64 0]) ?_ rfl ⟨_, _, _, _, _, _, rfl, HCe.out.more (by omega), HGe.out⟩
        rw [ats.results_cell1 rfl]
        simp [asAddr, Result.andThen, hl]
      have d0 : (k == 0) = false := by simpa using h0
      by_cases h1 : k = 1
      · subst h1
        go_wp2_with fail
        refine (among_new (-1) 4 p _ 4 [0, 1, 4, -1] _ wk HC.out (by omega) (by omega) (by omega) rfl rfl (by decide)).mono ?_
        rintro e wu ⟨u, rfl, u0, u1, hc, hg⟩
        have HT := Lib.hid (HT.out.grown hg (Nat.ne_of_gt htp))
        have HZ := Lib.hid (HZ.out.grown hg (Nat.ne_of_gt hzp))
        have HC := Lib.hid hc
        have HG := Lib.hid (grown_trans HG.out hg)
        clear hc hg
        have t0 : wu.cell? ⟨b, 0, none⟩ = some (.int .i64 i) := HT.out.cell 0 _ rfl
        have tf0 := HT.out.frozen 0
        have t1 : wu.cell? ⟨b, 1, none⟩ = some (.int .i64 2) := HT.out.cell 1 _ rfl
        have tf1 := HT.out.frozen 1
        have t2 : wu.cell? ⟨b, 2, none⟩ = some (.int .i64 x) := HT.out.cell 2 _ rfl
        have tf2 := HT.out.frozen 2
        have t3 : wu.cell? ⟨b, 3, none⟩ = some (.int .i64 y) := HT.out.cell 3 _ rfl
        have tf3 := HT.out.frozen 3
        have t4 : wu.cell? ⟨b, 4, none⟩ = some (.int .i64 c4) := HT.out.cell 4 _ rfl
        have tf4 := HT.out.frozen 4
        have t5 : wu.cell? ⟨b, 5, none⟩ = some (.int .i64 0) := HT.out.cell 5 _ rfl
        have tf5 := HT.out.frozen 5
        go_upto_region 19 with fail
        clear t0 tf0 t1 tf1 t2 tf2 t3 tf3 t4 tf4 t5 tf5
        have HT := Lib.hid (HT.out.set 5 (.int .i64 u))
        have HZ := Lib.hid (HZ.out.other (Nat.ne_of_lt hzt) 5 (.int .i64 u))
        have HC := Lib.hid (Cur.set HC.out htp (i := 5) (v := .int .i64 u))
        have HG := Lib.hid (grown_put HG.out (Nat.le_of_lt hzt) (i := 5) (v := .int .i64 u))
        generalize wu.setCell ⟨b, 5, none⟩ (.int .i64 u) = wv at *
        have z0 : wv.cell? ⟨w.heap.size, 0, none⟩ = some (.int .i64 0) := HZ.out.cell 0 _ rfl
        have zf0 := HZ.out.frozen 0
        have z1 : wv.cell? ⟨w.heap.size, 1, none⟩ = some (.int .i64 0) := HZ.out.cell 1 _ rfl
        have zf1 := HZ.out.frozen 1
        have z2 : wv.cell? ⟨w.heap.size, 2, none⟩ = some (.int .i64 0) := HZ.out.cell 2 _ rfl
        have zf2 := HZ.out.frozen 2
        have z3 : wv.cell? ⟨w.heap.size, 3, none⟩ = some (.int .i64 0) := HZ.out.cell 3 _ rfl
        have zf3 := HZ.out.frozen 3
        have z4 : wv.cell? ⟨w.heap.size, 4, none⟩ = some (.int .i64 0) := HZ.out.cell 4 _ rfl
        have zf4 := HZ.out.frozen 4
        have z5 : wv.cell? ⟨w.heap.size, 5, none⟩ = some (.int .i64 0) := HZ.out.cell 5 _ rfl
        have zf5 := HZ.out.frozen 5
        have t0 : wv.cell? ⟨b, 0, none⟩ = some (.int .i64 i) := HT.out.cell 0 _ rfl
        have tf0 := HT.out.frozen 0
        have t1 : wv.cell? ⟨b, 1, none⟩ = some (.int .i64 2) := HT.out.cell 1 _ rfl
        have tf1 := HT.out.frozen 1
        have t2 : wv.cell? ⟨b, 2, none⟩ = some (.int .i64 x) := HT.out.cell 2 _ rfl
        have tf2 := HT.out.frozen 2
        have t3 : wv.cell? ⟨b, 3, none⟩ = some (.int .i64 y) := HT.out.cell 3 _ rfl
        have tf3 := HT.out.frozen 3
        have t4 : wv.cell? ⟨b, 4, none⟩ = some (.int .i64 c4) := HT.out.cell 4 _ rfl
        have tf4 := HT.out.frozen 4
        have t5 : wv.cell? ⟨b, 5, none⟩ = some (.int .i64 u) := HT.out.cell 5 _ rfl
        have tf5 := HT.out.frozen 5
        have HE := Lib.hid ((((((HZ.out.set 0 (.int .i64 i)).set 1 (.int .i64 2)).set 2 (.int .i64 x)).set 3 (.int .i64 y)).set 4 (.int .i64 c4)).set 5 (.int .i64 u))
        have HCe := Lib.hid (Cur.set (Cur.set (Cur.set (Cur.set (Cur.set (Cur.set HC.out hzp (i := 0) (v := .int .i64 i)) hzp (i := 1) (v := .int .i64 2)) hzp (i := 2) (v := .int .i64 x)) hzp (i := 3) (v := .int .i64 y)) hzp (i := 4) (v := .int .i64 c4)) hzp (i := 5) (v := .int .i64 u))
        have HGe := Lib.hid (grown_put (grown_put (grown_put (grown_put (grown_put (grown_put HG.out (Nat.le_refl _) (i := 0) (v := .int .i64 i)) (Nat.le_refl _) (i := 1) (v := .int .i64 2)) (Nat.le_refl _) (i := 2) (v := .int .i64 x)) (Nat.le_refl _) (i := 3) (v := .int .i64 y)) (Nat.le_refl _) (i := 4) (v := .int .i64 c4)) (Nat.le_refl _) (i := 5) (v := .int .i64 u))
        clear HT HZ HC HG
        go_wp2_with fail
        have hl := HE.out.load Tryz.underlying25 rfl (by kernel_rfl)
        refine bodyPost_ret (v := .agg #[.int .i64 i, .int .i64 2, .int .i64 x, .int .i64 y, .int .i64 c4, .int .i64 u]) ?_ rfl ⟨_, _, _, _, _, _, rfl, HCe.out.more (by omega), HGe.out⟩
        rw [ats.results_cell1 rfl]
        simp [asAddr, Result.andThen, hl]
      have d1 : (k == 1) = false := by simpa using h1
      by_cases h2 : k = 2
      · subst h2
        go_wp2_with fail
        refine (among_new (-1) 9900 p _ 3 [-1, 9900, 9899] _ wk HC.out (by omega) (by omega) (by omega) rfl rfl (by decide)).mono ?_
        rintro e wu ⟨u, rfl, u0, u1, hc, hg⟩
        have HT := Lib.hid (HT.out.grown hg (Nat.ne_of_gt htp))
        have HZ := Lib.hid (HZ.out.grown hg (Nat.ne_of_gt hzp))
        have HC := Lib.hid hc
        have HG := Lib.hid (grown_trans HG.out hg)
        clear hc hg
        have t0 : wu.cell? ⟨b, 0, none⟩ = some (.int .i64 i) := HT.out.cell 0 _ rfl
        have tf0 := HT.out.frozen 0
        have t1 : wu.cell? ⟨b, 1, none⟩ = some (.int .i64 2) := HT.out.cell 1 _ rfl
        have tf1 := HT.out.frozen 1
        have t2 : wu.cell? ⟨b, 2, none⟩ = some (.int .i64 x) := HT.out.cell 2 _ rfl
        have tf2 := HT.out.frozen 2
        have t3 : wu.cell? ⟨b, 3, none⟩ = some (.int .i64 y) := HT.out.cell 3 _ rfl
        have tf3 := HT.out.frozen 3
        have t4 : wu.cell? ⟨b, 4, none⟩ = some (.int .i64 c4) := HT.out.cell 4 _ rfl
        have tf4 := HT.out.frozen 4
        have t5 : wu.cell? ⟨b, 5, none⟩ = some (.int .i64 0) := HT.out.cell 5 _ rfl
        have tf5 := HT.out.frozen 5
        go_upto_region 19 with fail
        clear t0 tf0 t1 tf1 t2 tf2 t3 tf3 t4 tf4 t5 tf5
        have HT := Lib.hid (HT.out.set 2 (.int .i64 u))
        have HZ := Lib.hid (HZ.out.other (Nat.ne_of_lt hzt) 2 (.int .i64 u))
        have HC := Lib.hid (Cur.set HC.out htp (i := 2) (v := .int .i64 u))
        have HG := Lib.hid (grown_put HG.out (Nat.le_of_lt hzt) (i := 2) (v := .int .i64 u))
        generalize wu.setCell ⟨b, 2, none⟩ (.int .i64 u) = wv at *
        have z0 : wv.cell? ⟨w.heap.size, 0, none⟩ = some (.int .i64 0) := HZ.out.cell 0 _ rfl
        have zf0 := HZ.out.frozen 0
        have z1 : wv.cell? ⟨w.heap.size, 1, none⟩ = some (.int .i64 0) := HZ.out.cell 1 _ rfl
        have zf1 := HZ.out.frozen 1
        have z2 : wv.cell? ⟨w.heap.size, 2, none⟩ = some (.int .i64 0) := HZ.out.cell 2 _ rfl
        have zf2 := HZ.out.frozen 2
        have z3 : wv.cell? ⟨w.heap.size, 3, none⟩ = some (.int .i64 0) := HZ.out.cell 3 _ rfl
        have zf3 := HZ.out.frozen 3
        have z4 : wv.cell? ⟨w.heap.size, 4, none⟩ = some (.int .i64 0) := HZ.out.cell 4 _ rfl
        have zf4 := HZ.out.frozen 4
        have z5 : wv.cell? ⟨w.heap.size, 5, none⟩ = some (.int .i64 0) := HZ.out.cell 5 _ rfl
        have zf5 := HZ.out.frozen 5
        have t0 : wv.cell? ⟨b, 0, none⟩ = some (.int .i64 i) := HT.out.cell 0 _ rfl
        have tf0 := HT.out.frozen 0
        have t1 : wv.cell? ⟨b, 1, none⟩ = some (.int .i64 2) := HT.out.cell 1 _ rfl
        have tf1 := HT.out.frozen 1
        have t2 : wv.cell? ⟨b, 2, none⟩ = some (.int .i64 u) := HT.out.cell 2 _ rfl
        have tf2 := HT.out.frozen 2
        have t3 : wv.cell? ⟨b, 3, none⟩ = some (.int .i64 y) := HT.out.cell 3 _ rfl
        have tf3 := HT.out.frozen 3
        have t4 : wv.cell? ⟨b, 4, none⟩ = some (.int .i64 c4) := HT.out.cell 4 _ rfl
        have tf4 := HT.out.frozen 4
        have t5 : wv.cell? ⟨b, 5, none⟩ = some (.int .i64 0) := HT.out.cell 5 _ rfl
        have tf5 := HT.out.frozen 5
        have HE := Lib.hid ((((((HZ.out.set 0 (.int .i64 i)).set 1 (.int .i64 2)).set 2 (.int .i64 u)).set 3 (.int .i64 y)).set 4 (.int .i64 c4)).set 5 (.int .i64 0))
        have HCe := Lib.hid (Cur.set (Cur.set (Cur.set (Cur.set (Cur.set (Cur.set HC.out hzp (i := 0) (v := .int .i64 i)) hzp (i := 1) (v := .int .i64 2)) hzp (i := 2) (v := .int .i64 u)) hzp (i := 3) (v := .int .i64 y)) hzp (i := 4) (v := .int .i64 c4)) hzp (i := 5) (v := .int .i64 0))
        have HGe := Lib.hid (grown_put (grown_put (grown_put (grown_put (grown_put (grown_put HG.out (Nat.le_refl _) (i := 0) (v := .int .i64 i)) (Nat.le_refl _) (i := 1) (v := .int .i64 2)) (Nat.le_refl _) (i := 2) (v := .int .i64 u)) (Nat.le_refl _) (i := 3) (v := .int .i64 y)) (Nat.le_refl _) (i := 4) (v := .int .i64 c4)) (Nat.le_refl _) (i := 5) (v := .int .i64 0))
        clear HT HZ HC HG
        go_wp2_with fail
        have hl := HE.out.load Tryz.underlying25 rfl (by kernel_rfl)
        refine bodyPost_ret (v := .agg #[.int .i64 i, .int .i64 2, .int .i64 u, .int .i64 y, .int .i64 c4, .int .i64 0]) ?_ rfl ⟨_, _, _, _, _, _, rfl, HCe.out.more (by omega), HGe.out⟩
        rw [ats.results_cell1 rfl]
        simp [asAddr, Result.andThen, hl]
      have d2 : (k == 2) = false := by simpa using h2
      by_cases h3 : k = 3
      · subst h3
        go_wp2_with fail
        refine (among_new (0) 4 p _ 2 [0, 4] _ wk HC.out (by omega) (by omega) (by omega) rfl rfl (by decide)).mono ?_
        rintro e wu ⟨u, rfl, u0, u1, hc, hg⟩
        have HT := Lib.hid (HT.out.grown hg (Nat.ne_of_gt htp))
        have HZ := Lib.hid (HZ.out.grown hg (Nat.ne_of_gt hzp))
        have HC := Lib.hid hc
        have HG := Lib.hid (grown_trans HG.out hg)
        clear hc hg
        have t0 : wu.cell? ⟨b, 0, none⟩ = some (.int .i64 i) := HT.out.cell 0 _ rfl
        have tf0 := HT.out.frozen 0
        have t1 : wu.cell? ⟨b, 1, none⟩ = some (.int .i64 2) := HT.out.cell 1 _ rfl
        have tf1 := HT.out.frozen 1
        have t2 : wu.cell? ⟨b, 2, none⟩ = some (.int .i64 x) := HT.out.cell 2 _ rfl
        have tf2 := HT.out.frozen 2
        have t3 : wu.cell? ⟨b, 3, none⟩ = some (.int .i64 y) := HT.out.cell 3 _ rfl
        have tf3 := HT.out.frozen 3
        have t4 : wu.cell? ⟨b, 4, none⟩ = some (.int .i64 c4) := HT.out.cell 4 _ rfl
        have tf4 := HT.out.frozen 4
        have t5 : wu.cell? ⟨b, 5, none⟩ = some (.int .i64 0) := HT.out.cell 5 _ rfl
        have tf5 := HT.out.frozen 5
        go_upto_region 19 with fail
        clear t0 tf0 t1 tf1 t2 tf2 t3 tf3 t4 tf4 t5 tf5
        have HT := Lib.hid (HT.out.set 1 (.int .i64 u))
        have HZ := Lib.hid (HZ.out.other (Nat.ne_of_lt hzt) 1 (.int .i64 u))
        have HC := Lib.hid (Cur.set HC.out htp (i := 1) (v := .int .i64 u))
        have HG := Lib.hid (grown_put HG.out (Nat.le_of_lt hzt) (i := 1) (v := .int .i64 u))
        generalize wu.setCell ⟨b, 1, none⟩ (.int .i64 u) = wv at *
        have z0 : wv.cell? ⟨w.heap.size, 0, none⟩ = some (.int .i64 0) := HZ.out.cell 0 _ rfl
        have zf0 := HZ.out.frozen 0
        have z1 : wv.cell? ⟨w.heap.size, 1, none⟩ = some (.int .i64 0) := HZ.out.cell 1 _ rfl
        have zf1 := HZ.out.frozen 1
        have z2 : wv.cell? ⟨w.heap.size, 2, none⟩ = some (.int .i64 0) := HZ.out.cell 2 _ rfl
        have zf2 := HZ.out.frozen 2
        have z3 : wv.cell? ⟨w.heap.size, 3, none⟩ = some (.int .i64 0) := HZ.out.cell 3 _ rfl
        have zf3 := HZ.out.frozen 3
        have z4 : wv.cell? ⟨w.heap.size, 4, none⟩ = some (.int .i64 0) := HZ.out.cell 4 _ rfl
        have zf4 := HZ.out.frozen 4
        have z5 : wv.cell? ⟨w.heap.size, 5, none⟩ = some (.int .i64 0) := HZ.out.cell 5 _ rfl
        have zf5 := HZ.out.frozen 5
        have t0 : wv.cell? ⟨b, 0, none⟩ = some (.int .i64 i) := HT.out.cell 0 _ rfl
        have tf0 := HT.out.frozen 0
        have t1 : wv.cell? ⟨b, 1, none⟩ = some (.int .i64 u) := HT.out.cell 1 _ rfl
        have tf1 := HT.out.frozen 1
        have t2 : wv.cell? ⟨b, 2, none⟩ = some (.int .i64 x) := HT.out.cell 2 _ rfl
        have tf2 := HT.out.frozen 2
        have t3 : wv.cell? ⟨b, 3, none⟩ = some (.int .i64 y) := HT.out.cell 3 _ rfl
        have tf3 := HT.out.frozen 3
        have t4 : wv.cell? ⟨b, 4, none⟩ = some (.int .i64 c4) := HT.out.cell 4 _ rfl
        have tf4 := HT.out.frozen 4
        have t5 : wv.cell? ⟨b, 5, none⟩ = some (.int .i64 0) := HT.out.cell 5 _ rfl
        have tf5 := HT.out.frozen 5
        have HE := Lib.hid ((((((HZ.out.set 0 (.int .i64 i)).set 1 (.int .i64 u)).set 2 (.int .i64 x)).set 3 (.int .i64 y)).set 4 (.int .i64 c4)).set 5 (.int .i64 0))
        have HCe := Lib.hid (Cur.set (Cur.set (Cur.set (Cur.set (Cur.set (Cur.set HC.out hzp (i := 0) (v := .int .i64 i)) hzp (i := 1) (v := .int .i64 u)) hzp (i := 2) (v := .int .i64 x)) hzp (i := 3) (v := .int .i64 y)) hzp (i := 4) (v := .int .i64 c4)) hzp (i := 5) (v := .int .i64 0))
        have HGe := Lib.hid (grown_put (grown_put (grown_put (grown_put (grown_put (grown_put HG.out (Nat.le_refl _) (i := 0) (v := .int .i64 i)) (Nat.le_refl _) (i := 1) (v := .int .i64 u)) (Nat.le_refl _) (i := 2) (v := .int .i64 x)) (Nat.le_refl _) (i := 3) (v := .int .i64 y)) (Nat.le_refl _) (i := 4) (v := .int .i64 c4)) (Nat.le_refl _) (i := 5) (v := .int .i64 0))
        clear HT HZ HC HG
        go_wp2_with fail
        have hl := HE.out.load Tryz.underlying25 rfl (by kernel_rfl)
        refine bodyPost_ret (v := .agg #[.int .i64 i, .int .i64 u, .int .i64 x, .int .i64 y, .int .i64 c4, .int .i64 0]) ?_ rfl ⟨_, _, _, _, _, _, rfl, HCe.out.more (by omega), HGe.out⟩
        rw [ats.results_cell1 rfl]
        simp [asAddr, Result.andThen, hl]
      have d3 : (k == 3) = false := by simpa using h3
      have z0 : wk.cell? ⟨w.heap.size, 0, none⟩ = some (.int .i64 0) := HZ.out.cell 0 _ rfl
      have zf0 := HZ.out.frozen 0
      have z1 : wk.cell? ⟨w.heap.size, 1, none⟩ = some (.int .i64 0) := HZ.out.cell 1 _ rfl
      have zf1 := HZ.out.frozen 1
      have z2 : wk.cell? ⟨w.heap.size, 2, none⟩ = some (.int .i64 0) := HZ.out.cell 2 _ rfl
      have zf2 := HZ.out.frozen 2
      have z3 : wk.cell? ⟨w.heap.size, 3, none⟩ = some (.int .i64 0) := HZ.out.cell 3 _ rfl
      have zf3 := HZ.out.frozen 3
      have z4 : wk.cell? ⟨w.heap.size, 4, none⟩ = some (.int .i64 0) := HZ.out.cell 4 _ rfl
      have zf4 := HZ.out.frozen 4
      have z5 : wk.cell? ⟨w.heap.size, 5, none⟩ = some (.int .i64 0) := HZ.out.cell 5 _ rfl
      have zf5 := HZ.out.frozen 5
      have t0 : wk.cell? ⟨b, 0, none⟩ = some (.int .i64 i) := HT.out.cell 0 _ rfl
      have tf0 := HT.out.frozen 0
      have t1 : wk.cell? ⟨b, 1, none⟩ = some (.int .i64 2) := HT.out.cell 1 _ rfl
      have tf1 := HT.out.frozen 1
      have t2 : wk.cell? ⟨b, 2, none⟩ = some (.int .i64 x) := HT.out.cell 2 _ rfl
      have tf2 := HT.out.frozen 2
      have t3 : wk.cell? ⟨b, 3, none⟩ = some (.int .i64 y) := HT.out.cell 3 _ rfl
      have tf3 := HT.out.frozen 3
      have t4 : wk.cell? ⟨b, 4, none⟩ = some (.int .i64 c4) := HT.out.cell 4 _ rfl
      have tf4 := HT.out.frozen 4
      have t5 : wk.cell? ⟨b, 5, none⟩ = some (.int .i64 0) := HT.out.cell 5 _ rfl
      have tf5 := HT.out.frozen 5
      have HE := Lib.hid ((((((HZ.out.set 0 (.int .i64 i)).set 1 (.int .i64 2)).set 2 (.int .i64 x)).set 3 (.int .i64 y)).set 4 (.int .i64 c4)).set 5 (.int .i64 0))
      have HCe := Lib.hid (Cur.set (Cur.set (Cur.set (Cur.set (Cur.set (Cur.set HC.out hzp (i := 0) (v := .int .i64 i)) hzp (i := 1) (v := .int .i64 2)) hzp (i := 2) (v := .int .i64 x)) hzp (i := 3) (v := .int .i64 y)) hzp (i := 4) (v := .int .i64 c4)) hzp (i := 5) (v := .int .i64 0))
      have HGe := Lib.hid (grown_put (grown_put (grown_put (grown_put (grown_put (grown_put HG.out (Nat.le_refl _) (i := 0) (v := .int .i64 i)) (Nat.le_refl _) (i := 1) (v := .int .i64 2)) (Nat.le_refl _) (i := 2) (v := .int .i64 x)) (Nat.le_refl _) (i := 3) (v := .int .i64 y)) (Nat.le_refl _) (i := 4) (v := .int .i64 c4)) (Nat.le_refl _) (i := 5) (v := .int .i64 0))
      clear HT HZ HC HG
      go_wp2_with fail
      have hl := HE.out.load Tryz.underlying25 rfl (by kernel_rfl)
      refine bodyPost_ret (v := .agg #[.int .i64 i, .int .i64 2, .int .i64 x, .int .i64 y, .int .i64 c4, .int .i64 0]) ?_ rfl ⟨_, _, _, _, _, _, rfl, HCe.out.more (by omega), HGe.out⟩
      rw [ats.results_cell1 rfl]
      simp [asAddr, Result.andThen, hl]
    have e_2 : (s == 2) = false := by simpa using g2
    go_wp2_with fail
    refine (pick p _ 9 wc HC.out (by omega) (by omega) (by omega)).mono ?_
    rintro e wr ⟨r, rfl, r0, r1, hc, hg⟩
    clear t0 tf0 t1 tf1 t2 tf2 t3 tf3 t4 tf4 t5 tf5
    have HT := Lib.hid (HT.out.grown hg (Nat.ne_of_gt htp))
    have HZ := Lib.hid (HZ.out.grown hg (Nat.ne_of_gt hzp))
    have HC := Lib.hid hc
    have HG := Lib.hid (grown_trans HG.out hg)
    clear hc hg
    have e1 : IntKind.i64.wrap (3 + r) = 3 + r := IntWalk.i64_in _ (by omega)
    have t0 : wr.cell? ⟨b, 0, none⟩ = some (.int .i64 i) := HT.out.cell 0 _ rfl
    have tf0 := HT.out.frozen 0
    have t1 : wr.cell? ⟨b, 1, none⟩ = some (.int .i64 s) := HT.out.cell 1 _ rfl
    have tf1 := HT.out.frozen 1
    have t2 : wr.cell? ⟨b, 2, none⟩ = some (.int .i64 x) := HT.out.cell 2 _ rfl
    have tf2 := HT.out.frozen 2
    have t3 : wr.cell? ⟨b, 3, none⟩ = some (.int .i64 y) := HT.out.cell 3 _ rfl
    have tf3 := HT.out.frozen 3
    have t4 : wr.cell? ⟨b, 4, none⟩ = some (.int .i64 0) := HT.out.cell 4 _ rfl
    have tf4 := HT.out.frozen 4
    have t5 : wr.cell? ⟨b, 5, none⟩ = some (.int .i64 0) := HT.out.cell 5 _ rfl
    have tf5 := HT.out.frozen 5
    go_upto_region 5 with fail
    clear t0 tf0 t1 tf1 t2 tf2 t3 tf3 t4 tf4 t5 tf5
    have HT := Lib.hid (HT.out.set 4 (.int .i64 (3 + r)))
    have HZ := Lib.hid (HZ.out.other (Nat.ne_of_lt hzt) 4 (.int .i64 (3 + r)))
    have HC := Lib.hid (Cur.set HC.out htp (i := 4) (v := .int .i64 (3 + r)))
    have HG := Lib.hid (grown_put HG.out (Nat.le_of_lt hzt) (i := 4) (v := .int .i64 (3 + r)))
    generalize wr.setCell ⟨b, 4, none⟩ (.int .i64 (3 + r)) = wrv at *
    generalize 3 + r = c4 at *
    clear e1 r0 r1
    have t0 : wrv.cell? ⟨b, 0, none⟩ = some (.int .i64 i) := HT.out.cell 0 _ rfl
    have tf0 := HT.out.frozen 0
    have t1 : wrv.cell? ⟨b, 1, none⟩ = some (.int .i64 s) := HT.out.cell 1 _ rfl
    have tf1 := HT.out.frozen 1
    have t2 : wrv.cell? ⟨b, 2, none⟩ = some (.int .i64 x) := HT.out.cell 2 _ rfl
    have tf2 := HT.out.frozen 2
    have t3 : wrv.cell? ⟨b, 3, none⟩ = some (.int .i64 y) := HT.out.cell 3 _ rfl
    have tf3 := HT.out.frozen 3
    have t4 : wrv.cell? ⟨b, 4, none⟩ = some (.int .i64 c4) := HT.out.cell 4 _ rfl
    have tf4 := HT.out.frozen 4
    have t5 : wrv.cell? ⟨b, 5, none⟩ = some (.int .i64 0) := HT.out.cell 5 _ rfl
    have tf5 := HT.out.frozen 5
    go_wp2_with fail
    refine (pick p _ 3 wrv HC.out (by omega) (by omega) (by omega)).mono ?_
    rintro e wt ⟨r, rfl, r0, r1, hc, hg⟩
    clear t0 tf0 t1 tf1 t2 tf2 t3 tf3 t4 tf4 t5 tf5
    have HT := Lib.hid (HT.out.grown hg (Nat.ne_of_gt htp))
    have HZ := Lib.hid (HZ.out.grown hg (Nat.ne_of_gt hzp))
    have HC := Lib.hid hc
    have HG := Lib.hid (grown_trans HG.out hg)
    clear hc hg
    have e1 : IntKind.i64.wrap (1 + r) = 1 + r := IntWalk.i64_in _ (by omega)
    have t0 : wt.cell? ⟨b, 0, none⟩ = some (.int .i64 i) := HT.out.cell 0 _ rfl
    have tf0 := HT.out.frozen 0
    have t1 : wt.cell? ⟨b, 1, none⟩ = some (.int .i64 s) := HT.out.cell 1 _ rfl
    have tf1 := HT.out.frozen 1
    have t2 : wt.cell? ⟨b, 2, none⟩ = some (.int .i64 x) := HT.out.cell 2 _ rfl
    have tf2 := HT.out.frozen 2
    have t3 : wt.cell? ⟨b, 3, none⟩ = some (.int .i64 y) := HT.out.cell 3 _ rfl
    have tf3 := HT.out.frozen 3
    have t4 : wt.cell? ⟨b, 4, none⟩ = some (.int .i64 c4) := HT.out.cell 4 _ rfl
    have tf4 := HT.out.frozen 4
    have t5 : wt.cell? ⟨b, 5, none⟩ = some (.int .i64 0) := HT.out.cell 5 _ rfl
    have tf5 := HT.out.frozen 5
    go_upto_region 10 with fail
    clear t0 tf0 t1 tf1 t2 tf2 t3 tf3 t4 tf4 t5 tf5
    have HT := Lib.hid (HT.out.set 5 (.int .i64 (1 + r)))
    have HZ := Lib.hid (HZ.out.other (Nat.ne_of_lt hzt) 5 (.int .i64 (1 + r)))
    have HC := Lib.hid (Cur.set HC.out htp (i := 5) (v := .int .i64 (1 + r)))
    have HG := Lib.hid (grown_put HG.out (Nat.le_of_lt hzt) (i := 5) (v := .int .i64 (1 + r)))
    generalize wt.setCell ⟨b, 5, none⟩ (.int .i64 (1 + r)) = wtv at *
    generalize 1 + r = c5 at *
    clear e1 r0 r1
    have t0 : wtv.cell? ⟨b, 0, none⟩ = some (.int .i64 i) := HT.out.cell 0 _ rfl
    have tf0 := HT.out.frozen 0
    have t1 : wtv.cell? ⟨b, 1, none⟩ = some (.int .i64 s) := HT.out.cell 1 _ rfl
    have tf1 := HT.out.frozen 1
    have t2 : wtv.cell? ⟨b, 2, none⟩ = some (.int .i64 x) := HT.out.cell 2 _ rfl
    have tf2 := HT.out.frozen 2
    have t3 : wtv.cell? ⟨b, 3, none⟩ = some (.int .i64 y) := HT.out.cell 3 _ rfl
    have tf3 := HT.out.frozen 3
    have t4 : wtv.cell? ⟨b, 4, none⟩ = some (.int .i64 c4) := HT.out.cell 4 _ rfl
    have tf4 := HT.out.frozen 4
    have t5 : wtv.cell? ⟨b, 5, none⟩ = some (.int .i64 c5) := HT.out.cell 5 _ rfl
    have tf5 := HT.out.frozen 5
    go_upto_region 10 with fail
    clear t0 tf0 t1 tf1 t2 tf2 t3 tf3 t4 tf4 t5 tf5
    go_wp2_with fail
    refine (pick p _ 24 wtv HC.out (by omega) (by omega) (by omega)).mono ?_
    rintro e wk ⟨k, rfl, k0, k1, hc, hg⟩
    have HT := Lib.hid (HT.out.grown hg (Nat.ne_of_gt htp))
    have HZ := Lib.hid (HZ.out.grown hg (Nat.ne_of_gt hzp))
    have HC := Lib.hid hc
    have HG := Lib.hid (grown_trans HG.out hg)
    clear hc hg
    by_cases h0 : k = 0
    · subst h0
      go_wp2_with fail
      refine (among_new (0) 10000 p _ 5 [0, 2, 3, 9999, 10000] _ wk HC.out (by omega) (by omega) (by omega) rfl rfl (by decide)).mono ?_
      rintro e wu ⟨u, rfl, u0, u1, hc, hg⟩
      have HT := Lib.hid (HT.out.grown hg (Nat.ne_of_gt htp))
      have HZ := Lib.hid (HZ.out.grown hg (Nat.ne_of_gt hzp))
      have HC := Lib.hid hc
      have HG := Lib.hid (grown_trans HG.out hg)
      clear hc hg
      have t0 : wu.cell? ⟨b, 0, none⟩ = some (.int .i64 i) := HT.out.cell 0 _ rfl
      have tf0 := HT.out.frozen 0
      have t1 : wu.cell? ⟨b, 1, none⟩ = some (.int .i64 s) := HT.out.cell 1 _ rfl
      have tf1 := HT.out.frozen 1
      have t2 : wu.cell? ⟨b, 2, none⟩ = some (.int .i64 x) := HT.out.cell 2 _ rfl
      have tf2 := HT.out.frozen 2
      have t3 : wu.cell? ⟨b, 3, none⟩ = some (.int .i64 y) := HT.out.cell 3 _ rfl
      have tf3 := HT.out.frozen 3
      have t4 : wu.cell? ⟨b, 4, none⟩ = some (.int .i64 c4) := HT.out.cell 4 _ rfl
      have tf4 := HT.out.frozen 4
      have t5 : wu.cell? ⟨b, 5, none⟩ = some (.int .i64 c5) := HT.out.cell 5 _ rfl
      have tf5 := HT.out.frozen 5
      go_upto_region 19 with fail
      clear t0 tf0 t1 tf1 t2 tf2 t3 tf3 t4 tf4 t5 tf5
      have HT := Lib.hid (HT.out.set 4 (.int .i64 u))
      have HZ := Lib.hid (HZ.out.other (Nat.ne_of_lt hzt) 4 (.int .i64 u))
      have HC := Lib.hid (Cur.set HC.out htp (i := 4) (v := .int .i64 u))
      have HG := Lib.hid (grown_put HG.out (Nat.le_of_lt hzt) (i := 4) (v := .int .i64 u))
      generalize wu.setCell ⟨b, 4, none⟩ (.int .i64 u) = wv at *
      have z0 : wv.cell? ⟨w.heap.size, 0, none⟩ = some (.int .i64 0) := HZ.out.cell 0 _ rfl
      have zf0 := HZ.out.frozen 0
      have z1 : wv.cell? ⟨w.heap.size, 1, none⟩ = some (.int .i64 0) := HZ.out.cell 1 _ rfl
      have zf1 := HZ.out.frozen 1
      have z2 : wv.cell? ⟨w.heap.size, 2, none⟩ = some (.int .i64 0) := HZ.out.cell 2 _ rfl
      have zf2 := HZ.out.frozen 2
      have z3 : wv.cell? ⟨w.heap.size, 3, none⟩ = some (.int .i64 0) := HZ.out.cell 3 _ rfl
      have zf3 := HZ.out.frozen 3
      have z4 : wv.cell? ⟨w.heap.size, 4, none⟩ = some (.int .i64 0) := HZ.out.cell 4 _ rfl
      have zf4 := HZ.out.frozen 4
      have z5 : wv.cell? ⟨w.heap.size, 5, none⟩ = some (.int .i64 0) := HZ.out.cell 5 _ rfl
      have zf5 := HZ.out.frozen 5
      have t0 : wv.cell? ⟨b, 0, none⟩ = some (.int .i64 i) := HT.out.cell 0 _ rfl
      have tf0 := HT.out.frozen 0
      have t1 : wv.cell? ⟨b, 1, none⟩ = some (.int .i64 s) := HT.out.cell 1 _ rfl
      have tf1 := HT.out.frozen 1
      have t2 : wv.cell? ⟨b, 2, none⟩ = some (.int .i64 x) := HT.out.cell 2 _ rfl
      have tf2 := HT.out.frozen 2
      have t3 : wv.cell? ⟨b, 3, none⟩ = some (.int .i64 y) := HT.out.cell 3 _ rfl
      have tf3 := HT.out.frozen 3
      have t4 : wv.cell? ⟨b, 4, none⟩ = some (.int .i64 u) := HT.out.cell 4 _ rfl
      have tf4 := HT.out.frozen 4
      have t5 : wv.cell? ⟨b, 5, none⟩ = some (.int .i64 c5) := HT.out.cell 5 _ rfl
      have tf5 := HT.out.frozen 5
      have HE := Lib.hid ((((((HZ.out.set 0 (.int .i64 i)).set 1 (.int .i64 s)).set 2 (.int .i64 x)).set 3 (.int .i64 y)).set 4 (.int .i64 u)).set 5 (.int .i64 c5))
      have HCe := Lib.hid (Cur.set (Cur.set (Cur.set (Cur.set (Cur.set (Cur.set HC.out hzp (i := 0) (v := .int .i64 i)) hzp (i := 1) (v := .int .i64 s)) hzp (i := 2) (v := .int .i64 x)) hzp (i := 3) (v := .int .i64 y)) hzp (i := 4) (v := .int .i64 u)) hzp (i := 5) (v := .int .i64 c5))
      have HGe := Lib.hid (grown_put (grown_put (grown_put (grown_put (grown_put (grown_put HG.out (Nat.le_refl _) (i := 0) (v := .int .i64 i)) (Nat.le_refl _) (i := 1) (v := .int .i64 s)) (Nat.le_refl _) (i := 2) (v := .int .i64 x)) (Nat.le_refl _) (i := 3) (v := .int .i64 y)) (Nat.le_refl _) (i := 4) (v := .int .i64 u)) (Nat.le_refl _) (i := 5) (v := .int .i64 c5))
      clear HT HZ HC HG
      go_wp2_with fail
      have hl := HE.out.load Tryz.underlying25 rfl (by kernel_rfl)
      refine bodyPost_ret (v := .agg #[.int .i64 i, .int .i64 s, .int .i64 x, .int .i64 y, .int .i64 u, .int .i64 c5]) ?_ rfl ⟨_, _, _, _, _, _, rfl, HCe.out.more (by omega), HGe.out⟩
      rw [ats.results_cell1 rfl]
      simp [asAddr, Result.andThen, hl]
    have d0 : (k == 0) = false := by simpa using h0
    by_cases h1 : k = 1
    · subst h1
      go_wp2_with fail
      refine (among_new (-1) 4 p _ 4 [0, 1, 4, -1] _ wk HC.out (by omega) (by omega) (by omega) rfl rfl (by decide)).mono ?_
      rintro e wu ⟨u, rfl, u0, u1, hc, hg⟩
      have HT := Lib.hid (HT.out.grown hg (Nat.ne_of_gt htp))
      have HZ := Lib.hid (HZ.out.grown hg (Nat.ne_of_gt hzp))
      have HC := Lib.hid hc
      have HG := Lib.hid (grown_trans HG.out hg)
      clear hc hg
      have t0 : wu.cell? ⟨b, 0, none⟩ = some (.int .i64 i) := HT.out.cell 0 _ rfl
      have tf0 := HT.out.frozen 0
      have t1 : wu.cell? ⟨b, 1, none⟩ = some (.int .i64 s) := HT.out.cell 1 _ rfl
      have tf1 := HT.out.frozen 1
      have t2 : wu.cell? ⟨b, 2, none⟩ = some (.int .i64 x) := HT.out.cell 2 _ rfl
      have tf2 := HT.out.frozen 2
      have t3 : wu.cell? ⟨b, 3, none⟩ = some (.int .i64 y) := HT.out.cell 3 _ rfl
      have tf3 := HT.out.frozen 3
      have t4 : wu.cell? ⟨b, 4, none⟩ = some (.int .i64 c4) := HT.out.cell 4 _ rfl
      have tf4 := HT.out.frozen 4
      have t5 : wu.cell? ⟨b, 5, none⟩ = some (.int .i64 c5) := HT.out.cell 5 _ rfl
      have tf5 := HT.out.frozen 5
      go_upto_region 19 with fail
      clear t0 tf0 t1 tf1 t2 tf2 t3 tf3 t4 tf4 t5 tf5
      have HT := Lib.hid (HT.out.set 5 (.int .i64 u))
      have HZ := Lib.hid (HZ.out.other (Nat.ne_of_lt hzt) 5 (.int .i64 u))
      have HC := Lib.hid (Cur.set HC.out htp (i := 5) (v := .int .i64 u))
      have HG := Lib.hid (grown_put HG.out (Nat.le_of_lt hzt) (i := 5) (v := .int .i64 u))
      generalize wu.setCell ⟨b, 5, none⟩ (.int .i64 u) = wv at *
      have z0 : wv.cell? ⟨w.heap.size, 0, none⟩ = some (.int .i64 0) := HZ.out.cell 0 _ rfl
      have zf0 := HZ.out.frozen 0
      have z1 : wv.cell? ⟨w.heap.size, 1, none⟩ = some (.int .i64 0) := HZ.out.cell 1 _ rfl
      have zf1 := HZ.out.frozen 1
      have z2 : wv.cell? ⟨w.heap.size, 2, none⟩ = some (.int .i64 0) := HZ.out.cell 2 _ rfl
      have zf2 := HZ.out.frozen 2
      have z3 : wv.cell? ⟨w.heap.size, 3, none⟩ = some (.int .i64 0) := HZ.out.cell 3 _ rfl
      have zf3 := HZ.out.frozen 3
      have z4 : wv.cell? ⟨w.heap.size, 4, none⟩ = some (.int .i64 0) := HZ.out.cell 4 _ rfl
      have zf4 := HZ.out.frozen 4
      have z5 : wv.cell? ⟨w.heap.size, 5, none⟩ = some (.int .i64 0) := HZ.out.cell 5 _ rfl
      have zf5 := HZ.out.frozen 5
      have t0 : wv.cell? ⟨b, 0, none⟩ = some (.int .i64 i) := HT.out.cell 0 _ rfl
      have tf0 := HT.out.frozen 0
      have t1 : wv.cell? ⟨b, 1, none⟩ = some (.int .i64 s) := HT.out.cell 1 _ rfl
      have tf1 := HT.out.frozen 1
      have t2 : wv.cell? ⟨b, 2, none⟩ = some (.int .i64 x) := HT.out.cell 2 _ rfl
      have tf2 := HT.out.frozen 2
      have t3 : wv.cell? ⟨b, 3, none⟩ = some (.int .i64 y) := HT.out.cell 3 _ rfl
      have tf3 := HT.out.frozen 3
      have t4 : wv.cell? ⟨b, 4, none⟩ = some (.int .i64 c4) := HT.out.cell 4 _ rfl
      have tf4 := HT.out.frozen 4
      have t5 : wv.cell? ⟨b, 5, none⟩ = some (.int .i64 u) := HT.out.cell 5 _ rfl
      have tf5 := HT.out.frozen 5
      have HE := Lib.hid ((((((HZ.out.set 0 (.int .i64 i)).set 1 (.int .i64 s)).set 2 (.int .i64 x)).set 3 (.int .i64 y)).set 4 (.int .i64 c4)).set 5 (.int .i64 u))
      have HCe := Lib.hid (Cur.set (Cur.set (Cur.set (Cur.set (Cur.set (Cur.set HC.out hzp (i := 0) (v := .int .i64 i)) hzp (i := 1) (v := .int .i64 s)) hzp (i := 2) (v := .int .i64 x)) hzp (i := 3) (v := .int .i64 y)) hzp (i := 4) (v := .int .i64 c4)) hzp (i := 5) (v := .int .i64 u))
      have HGe := Lib.hid (grown_put (grown_put (grown_put (grown_put (grown_put (grown_put HG.out (Nat.le_refl _) (i := 0) (v := .int .i64 i)) (Nat.le_refl _) (i := 1) (v := .int .i64 s)) (Nat.le_refl _) (i := 2) (v := .int .i64 x)) (Nat.le_refl _) (i := 3) (v := .int .i64 y)) (Nat.le_refl _) (i := 4) (v := .int .i64 c4)) (Nat.le_refl _) (i := 5) (v := .int .i64 u))
      clear HT HZ HC HG
      go_wp2_with fail
      have hl := HE.out.load Tryz.underlying25 rfl (by kernel_rfl)
      refine bodyPost_ret (v := .agg #[.int .i64 i, .int .i64 s, .int .i64 x, .int .i64 y, .int .i64 c4, .int .i64 u]) ?_ rfl ⟨_, _, _, _, _, _, rfl, HCe.out.more (by omega), HGe.out⟩
      rw [ats.results_cell1 rfl]
      simp [asAddr, Result.andThen, hl]
    have d1 : (k == 1) = false := by simpa using h1
    by_cases h2 : k = 2
    · subst h2
      go_wp2_with fail
      refine (among_new (-1) 9900 p _ 3 [-1, 9900, 9899] _ wk HC.out (by omega) (by omega) (by omega) rfl rfl (by decide)).mono ?_
      rintro e wu ⟨u, rfl, u0, u1, hc, hg⟩
      have HT := Lib.hid (HT.out.grown hg (Nat.ne_of_gt htp))
      have HZ := Lib.hid (HZ.out.grown hg (Nat.ne_of_gt hzp))
      have HC := Lib.hid hc
      have HG := Lib.hid (grown_trans HG.out hg)
      clear hc hg
      have t0 : wu.cell? ⟨b, 0, none⟩ = some (.int .i64 i) := HT.out.cell 0 _ rfl
      have tf0 := HT.out.frozen 0
      have t1 : wu.cell? ⟨b, 1, none⟩ = some (.int .i64 s) := HT.out.cell 1 _ rfl
      have tf1 := HT.out.frozen 1
      have t2 : wu.cell? ⟨b, 2, none⟩ = some (.int .i64 x) := HT.out.cell 2 _ rfl
      have tf2 := HT.out.frozen 2
      have t3 : wu.cell? ⟨b, 3, none⟩ = some (.int .i64 y) := HT.out.cell 3 _ rfl
      have tf3 := HT.out.frozen 3
      have t4 : wu.cell? ⟨b, 4, none⟩ = some (.int .i64 c4) := HT.out.cell 4 _ rfl
      have tf4 := HT.out.frozen 4
      have t5 : wu.cell? ⟨b, 5, none⟩ = some (.int .i64 c5) := HT.out.cell 5 _ rfl
      have tf5 := HT.out.frozen 5
      go_upto_region 19 with fail
      clear t0 tf0 t1 tf1 t2 tf2 t3 tf3 t4 tf4 t5 tf5
      have HT := Lib.hid (HT.out.set 2 (.int .i64 u))
      have HZ := Lib.hid (HZ.out.other (Nat.ne_of_lt hzt) 2 (.int .i64 u))
      have HC := Lib.hid (Cur.set HC.out htp (i := 2) (v := .int .i64 u))
      have HG := Lib.hid (grown_put HG.out (Nat.le_of_lt hzt) (i := 2) (v := .int .i64 u))
      generalize wu.setCell ⟨b, 2, none⟩ (.int .i64 u) = wv at *
      have z0 : wv.cell? ⟨w.heap.size, 0, none⟩ = some (.int .i64 0) := HZ.out.cell 0 _ rfl
      have zf0 := HZ.out.frozen 0
      have z1 : wv.cell? ⟨w.heap.size, 1, none⟩ = some (.int .i64 0) := HZ.out.cell 1 _ rfl
      have zf1 := HZ.out.frozen 1
      have z2 : wv.cell? ⟨w.heap.size, 2, none⟩ = some (.int .i64 0) := HZ.out.cell 2 _ rfl
      have zf2 := HZ.out.frozen 2
      have z3 : wv.cell? ⟨w.heap.size, 3, none⟩ = some (.int .i64 0) := HZ.out.cell 3 _ rfl
      have zf3 := HZ.out.frozen 3
      have z4 : wv.cell? ⟨w.heap.size, 4, none⟩ = some (.int .i64 0) := HZ.out.cell 4 _ rfl
      have zf4 := HZ.out.frozen 4
      have z5 : wv.cell? ⟨w.heap.size, 5, none⟩ = some (.int .i64 0) := HZ.out.cell 5 _ rfl
      have zf5 := HZ.out.frozen 5
      have t0 : wv.cell? ⟨b, 0, none⟩ = some (.int .i64 i) := HT.out.cell 0 _ rfl
      have tf0 := HT.out.frozen 0
      have t1 : wv.cell? ⟨b, 1, none⟩ = some (.int .i64 s) := HT.out.cell 1 _ rfl
      have tf1 := HT.out.frozen 1
      have t2 : wv.cell? ⟨b, 2, none⟩ = some (.int .i64 u) := HT.out.cell 2 _ rfl
      have tf2 := HT.out.frozen 2
      have t3 : wv.cell? ⟨b, 3, none⟩ = some (.int .i64 y) := HT.out.cell 3 _ rfl
      have tf3 := HT.out.frozen 3
      have t4 : wv.cell? ⟨b, 4, none⟩ = some (.int .i64 c4) := HT.out.cell 4 _ rfl
      have tf4 := HT.out.frozen 4
      have t5 : wv.cell? ⟨b, 5, none⟩ = some (.int .i64 c5) := HT.out.cell 5 _ rfl
      have tf5 := HT.out.frozen 5
      have HE := Lib.hid ((((((HZ.out.set 0 (.int .i64 i)).set 1 (.int .i64 s)).set 2 (.int .i64 u)).set 3 (.int .i64 y)).set 4 (.int .i64 c4)).set 5 (.int .i64 c5))
      have HCe := Lib.hid (Cur.set (Cur.set (Cur.set (Cur.set (Cur.set (Cur.set HC.out hzp (i := 0) (v := .int .i64 i)) hzp (i := 1) (v := .int .i64 s)) hzp (i := 2) (v := .int .i64 u)) hzp (i := 3) (v := .int .i64 y)) hzp (i := 4) (v := .int .i64 c4)) hzp (i := 5) (v := .int .i64 c5))
      have HGe := Lib.hid (grown_put (grown_put (grown_put (grown_put (grown_put (grown_put HG.out (Nat.le_refl _) (i := 0) (v := .int .i64 i)) (Nat.le_refl _) (i := 1) (v := .int .i64 s)) (Nat.le_refl _) (i := 2) (v := .int .i64 u)) (Nat.le_refl _) (i := 3) (v := .int .i64 y)) (Nat.le_refl _) (i := 4) (v := .int .i64 c4)) (Nat.le_refl _) (i := 5) (v := .int .i64 c5))
      clear HT HZ HC HG
      go_wp2_with fail
      have hl := HE.out.load Tryz.underlying25 rfl (by kernel_rfl)
      refine bodyPost_ret (v := .agg #[.int .i64 i, .int .i64 s, .int .i64 u, .int .i64 y, .int .i64 c4, .int .i64 c5]) ?_ rfl ⟨_, _, _, _, _, _, rfl, HCe.out.more (by omega), HGe.out⟩
      rw [ats.results_cell1 rfl]
      simp [asAddr, Result.andThen, hl]
    have d2 : (k == 2) = false := by simpa using h2
    by_cases h3 : k = 3
    · subst h3
      go_wp2_with fail
      refine (among_new (0) 4 p _ 2 [0, 4] _ wk HC.out (by omega) (by omega) (by omega) rfl rfl (by decide)).mono ?_
      rintro e wu ⟨u, rfl, u0, u1, hc, hg⟩
      have HT := Lib.hid (HT.out.grown hg (Nat.ne_of_gt htp))
      have HZ := Lib.hid (HZ.out.grown hg (Nat.ne_of_gt hzp))
      have HC := Lib.hid hc
      have HG := Lib.hid (grown_trans HG.out hg)
      clear hc hg
      have t0 : wu.cell? ⟨b, 0, none⟩ = some (.int .i64 i) := HT.out.cell 0 _ rfl
      have tf0 := HT.out.frozen 0
      have t1 : wu.cell? ⟨b, 1, none⟩ = some (.int .i64 s) := HT.out.cell 1 _ rfl
      have tf1 := HT.out.frozen 1
      have t2 : wu.cell? ⟨b, 2, none⟩ = some (.int .i64 x) := HT.out.cell 2 _ rfl
      have tf2 := HT.out.frozen 2
      have t3 : wu.cell? ⟨b, 3, none⟩ = some (.int .i64 y) := HT.out.cell 3 _ rfl
      have tf3 := HT.out.frozen 3
      have t4 : wu.cell? ⟨b, 4, none⟩ = some (.int .i64 c4) := HT.out.cell 4 _ rfl
      have tf4 := HT.out.frozen 4
      have t5 : wu.cell? ⟨b, 5, none⟩ = some (.int .i64 c5) := HT.out.cell 5 _ rfl
      have tf5 := HT.out.frozen 5
      go_upto_region 19 with fail
      clear t0 tf0 t1 tf1 t2 tf2 t3 tf3 t4 tf4 t5 tf5
      have HT := Lib.hid (HT.out.set 1 (.int .i64 u))
      have HZ := Lib.hid (HZ.out.other (Nat.ne_of_lt hzt) 1 (.int .i64 u))
      have HC := Lib.hid (Cur.set HC.out htp (i := 1) (v := .int .i64 u))
      have HG := Lib.hid (grown_put HG.out (Nat.le_of_lt hzt) (i := 1) (v := .int .i64 u))
      generalize wu.setCell ⟨b, 1, none⟩ (.int .i64 u) = wv at *
      have z0 : wv.cell? ⟨w.heap.size, 0, none⟩ = some (.int .i64 0) := HZ.out.cell 0 _ rfl
      have zf0 := HZ.out.frozen 0
      have z1 : wv.cell? ⟨w.heap.size, 1, none⟩ = some (.int .i64 0) := HZ.out.cell 1 _ rfl
      have zf1 := HZ.out.frozen 1
      have z2 : wv.cell? ⟨w.heap.size, 2, none⟩ = some (.int .i64 0) := HZ.out.cell 2 _ rfl
      have zf2 := HZ.out.frozen 2
      have z3 : wv.cell? ⟨w.heap.size, 3, none⟩ = some (.int .i64 0) := HZ.out.cell 3 _ rfl
      have zf3 := HZ.out.frozen 3
      have z4 : wv.cell? ⟨w.heap.size, 4, none⟩ = some (.int .i64 0) := HZ.out.cell 4 _ rfl
      have zf4 := HZ.out.frozen 4
      have z5 : wv.cell? ⟨w.heap.size, 5, none⟩ = some (.int .i64 0) := HZ.out.cell 5 _ rfl
      have zf5 := HZ.out.frozen 5
      have t0 : wv.cell? ⟨b, 0, none⟩ = some (.int .i64 i) := HT.out.cell 0 _ rfl
      have tf0 := HT.out.frozen 0
      have t1 : wv.cell? ⟨b, 1, none⟩ = some (.int .i64 u) := HT.out.cell 1 _ rfl
      have tf1 := HT.out.frozen 1
      have t2 : wv.cell? ⟨b, 2, none⟩ = some (.int .i64 x) := HT.out.cell 2 _ rfl
      have tf2 := HT.out.frozen 2
      have t3 : wv.cell? ⟨b, 3, none⟩ = some (.int .i64 y) := HT.out.cell 3 _ rfl
      have tf3 := HT.out.frozen 3
      have t4 : wv.cell? ⟨b, 4, none⟩ = some (.int .i64 c4) := HT.out.cell 4 _ rfl
      have tf4 := HT.out.frozen 4
      have t5 : wv.cell? ⟨b, 5, none⟩ = some (.int .i64 c5) := HT.out.cell 5 _ rfl
      have tf5 := HT.out.frozen 5
      have HE := Lib.hid ((((((HZ.out.set 0 (.int .i64 i)).set 1 (.int .i64 u)).set 2 (.int .i64 x)).set 3 (.int .i64 y)).set 4 (.int .i64 c4)).set 5 (.int .i64 c5))
      have HCe := Lib.hid (Cur.set (Cur.set (Cur.set (Cur.set (Cur.set (Cur.set HC.out hzp (i := 0) (v := .int .i64 i)) hzp (i := 1) (v := .int .i64 u)) hzp (i := 2) (v := .int .i64 x)) hzp (i := 3) (v := .int .i64 y)) hzp (i := 4) (v := .int .i64 c4)) hzp (i := 5) (v := .int .i64 c5))
      have HGe := Lib.hid (grown_put (grown_put (grown_put (grown_put (grown_put (grown_put HG.out (Nat.le_refl _) (i := 0) (v := .int .i64 i)) (Nat.le_refl _) (i := 1) (v := .int .i64 u)) (Nat.le_refl _) (i := 2) (v := .int .i64 x)) (Nat.le_refl _) (i := 3) (v := .int .i64 y)) (Nat.le_refl _) (i := 4) (v := .int .i64 c4)) (Nat.le_refl _) (i := 5) (v := .int .i64 c5))
      clear HT HZ HC HG
      go_wp2_with fail
      have hl := HE.out.load Tryz.underlying25 rfl (by kernel_rfl)
      refine bodyPost_ret (v := .agg #[.int .i64 i, .int .i64 u, .int .i64 x, .int .i64 y, .int .i64 c4, .int .i64 c5]) ?_ rfl ⟨_, _, _, _, _, _, rfl, HCe.out.more (by omega), HGe.out⟩
      rw [ats.results_cell1 rfl]
      simp [asAddr, Result.andThen, hl]
    have d3 : (k == 3) = false := by simpa using h3
    have z0 : wk.cell? ⟨w.heap.size, 0, none⟩ = some (.int .i64 0) := HZ.out.cell 0 _ rfl
    have zf0 := HZ.out.frozen 0
    have z1 : wk.cell? ⟨w.heap.size, 1, none⟩ = some (.int .i64 0) := HZ.out.cell 1 _ rfl
    have zf1 := HZ.out.frozen 1
    have z2 : wk.cell? ⟨w.heap.size, 2, none⟩ = some (.int .i64 0) := HZ.out.cell 2 _ rfl
    have zf2 := HZ.out.frozen 2
    have z3 : wk.cell? ⟨w.heap.size, 3, none⟩ = some (.int .i64 0) := HZ.out.cell 3 _ rfl
    have zf3 := HZ.out.frozen 3
    have z4 : wk.cell? ⟨w.heap.size, 4, none⟩ = some (.int .i64 0) := HZ.out.cell 4 _ rfl
    have zf4 := HZ.out.frozen 4
    have z5 : wk.cell? ⟨w.heap.size, 5, none⟩ = some (.int .i64 0) := HZ.out.cell 5 _ rfl
    have zf5 := HZ.out.frozen 5
    have t0 : wk.cell? ⟨b, 0, none⟩ = some (.int .i64 i) := HT.out.cell 0 _ rfl
    have tf0 := HT.out.frozen 0
    have t1 : wk.cell? ⟨b, 1, none⟩ = some (.int .i64 s) := HT.out.cell 1 _ rfl
    have tf1 := HT.out.frozen 1
    have t2 : wk.cell? ⟨b, 2, none⟩ = some (.int .i64 x) := HT.out.cell 2 _ rfl
    have tf2 := HT.out.frozen 2
    have t3 : wk.cell? ⟨b, 3, none⟩ = some (.int .i64 y) := HT.out.cell 3 _ rfl
    have tf3 := HT.out.frozen 3
    have t4 : wk.cell? ⟨b, 4, none⟩ = some (.int .i64 c4) := HT.out.cell 4 _ rfl
    have tf4 := HT.out.frozen 4
    have t5 : wk.cell? ⟨b, 5, none⟩ = some (.int .i64 c5) := HT.out.cell 5 _ rfl
    have tf5 := HT.out.frozen 5
    have HE := Lib.hid ((((((HZ.out.set 0 (.int .i64 i)).set 1 (.int .i64 s)).set 2 (.int .i64 x)).set 3 (.int .i64 y)).set 4 (.int .i64 c4)).set 5 (.int .i64 c5))
    have HCe := Lib.hid (Cur.set (Cur.set (Cur.set (Cur.set (Cur.set (Cur.set HC.out hzp (i := 0) (v := .int .i64 i)) hzp (i := 1) (v := .int .i64 s)) hzp (i := 2) (v := .int .i64 x)) hzp (i := 3) (v := .int .i64 y)) hzp (i := 4) (v := .int .i64 c4)) hzp (i := 5) (v := .int .i64 c5))
    have HGe := Lib.hid (grown_put (grown_put (grown_put (grown_put (grown_put (grown_put HG.out (Nat.le_refl _) (i := 0) (v := .int .i64 i)) (Nat.le_refl _) (i := 1) (v := .int .i64 s)) (Nat.le_refl _) (i := 2) (v := .int .i64 x)) (Nat.le_refl _) (i := 3) (v := .int .i64 y)) (Nat.le_refl _) (i := 4) (v := .int .i64 c4)) (Nat.le_refl _) (i := 5) (v := .int .i64 c5))
    clear HT HZ HC HG
    go_wp2_with fail
    have hl := HE.out.load Tryz.underlying25 rfl (by kernel_rfl)
    refine bodyPost_ret (v := .agg #[.int .i64 i, .int .i64 s, .int .i64 x, .int .i64 y, .int .i64 c4, .int .i64 c5]) ?_ rfl ⟨_, _, _, _, _, _, rfl, HCe.out.more (by omega), HGe.out⟩
    rw [ats.results_cell1 rfl]
    simp [asAddr, Result.andThen, hl]

end Go.Proofs.YtfigjfckelichaaGreatDoor.draws14

/- spec's draw of a list of tracks. -/
namespace Go.Proofs.YtfigjfckelichaaGreatDoor.drawt14
open Go.RowKit Go.Proofs.YtfigjfckelichaaGreatDoor.cur Go.Proofs.YtfigjfckelichaaGreatDoor.atc Go.Proofs.YtfigjfckelichaaGreatDoor.ats Go.Proofs.YtfigjfckelichaaGreatDoor.ints Go.Proofs.YtfigjfckelichaaGreatDoor.lst Go.Proofs.YtfigjfckelichaaGreatDoor.code_ Go.Proofs.YtfigjfckelichaaGreatDoor.draws14 Go.Proofs.YtfigjfckelichaaGreatDoor.trk

theorem infoT : (Tryz.prog.info? 25).map (fun i => (i.zero, i.size, i.bytes)) = some (some (.agg #[.int .i64 0, .int .i64 0, .int .i64 0, .int .i64 0, .int .i64 0, .int .i64 0]), 6, 48) := by kernel_rfl
theorem six_cells (a b c d e f : Int) : ∀ u ∈ [Value.int .i64 a, .int .i64 b, .int .i64 c, .int .i64 d, .int .i64 e, .int .i64 f], u.oneCell' = true := by
  intro u hu
  simp at hu
  rcases hu with rfl | rfl | rfl | rfl | rfl | rfl <;> rfl
theorem grown_append {w wr w1 : World} {o : Obj} {p B e size n : Nat} {v : Value} {xs : List Value} (hg : w.grownBy wr (some p)) (h : wr.ownsRow B e size v n xs) (hB : w.heap.size ≤ B) (ha : (wr.alloc o).grownBy w1 v.ownBlock) : w.grownBy w1 (some p) :=
  ⟨ha.os.trans hg.os, ha.tape.trans hg.tape, ha.output.trans hg.output, Nat.le_trans hg.size (Nat.le_trans (by rw [World.size_alloc]; omega) ha.size), fun k hk hne => by
    have h1 := ha.block k (by have := hg.size; rw [World.size_alloc]; omega) (fun e => by have := own_.row_ge h k e.symm; omega)
    have h2 : (wr.alloc o).heap[k]? = wr.heap[k]? := Below.heap_alloc wr o k (by have := hg.size; omega)
    exact h1.trans (h2.trans (hg.block k hk hne))⟩
theorem cur_append {wr w1 : World} {o : Obj} {p m B e size n : Nat} {v : Value} {xs : List Value} (hc : Cur wr p m) (h : wr.ownsRow B e size v n xs) (hB : p < B) (hs : B ≤ wr.heap.size) (ha : (wr.alloc o).grownBy w1 v.ownBlock) : Cur w1 p m :=
  hc.keep (((Below.refl (p + 1) wr).alloc (by omega) o).grown ha (by rw [World.size_alloc]; omega) (fun k e => by have := own_.row_ge h k e; omega))
theorem own_grow6 {w : World} {B e n : Nat} {v : Value} {xs : List Int} {x0 x1 x2 x3 x4 x5 : Int} (h : w.ownsRow B e 6 v (n + 1) (cellsI xs ++ [.int .i64 x0, .int .i64 x1, .int .i64 x2, .int .i64 x3, .int .i64 x4, .int .i64 x5])) : w.ownsRow B e 6 v (n + 1) (cellsI (xs ++ [x0, x1, x2, x3, x4, x5])) := by
  unfold cellsI at h ⊢
  rw [List.map_append]
  exact h
theorem own_len6 {w : World} {B e n : Nat} {v : Value} {xs : List Int} (h : w.ownsRow B e 6 v n (cellsI xs)) : xs.length = n * 6 := by have := h.1; unfold cellsI at this; simpa using this
def lenV : Value → Nat
  | .slice _ k _ => k
  | _ => 0
def TracksQ (p m : Nat) (w : World) (e : Ending) (w' : World) : Prop := ∃ v n zs, e = .returned v ∧ w'.ownsRow w.heap.size 25 6 v n (cellsI zs) ∧ n ≤ 9 ∧ Cur w' p m ∧ w.grownBy w' (some p)

set_option maxRecDepth 100000 in
set_option maxHeartbeats 16000000 in
theorem tracks (p m : Nat) (w : World) (h : Cur w p m) (hm : m ≤ 100000) :
    Calls Tryz.prog 41 #[.pointer (some ⟨p, 0, none⟩)] w (TracksQ p (m + 400) w) := by
  have hp := h.lt
  obtain ⟨i0, hi, hz0, hz1, hz2⟩ := info_parts infoT
  have O0 := Lib.hid (own_emptyZ w 25 6)
  have C0 := Lib.hid (h.keep ((Below.refl (p + 1) w).alloc (by omega) (.cells #[] 25)))
  have G0 := Lib.hid (show w.grownBy (w.alloc (.cells #[] 25)) (some p) from grown_alloc _ _)
  clear h
  go_enter Tryz.func41, Tryz.ntmps41
  go_upto_region 2 with fail
  generalize w.alloc (.cells #[] 25) = W at *
  go_wp2_with fail
  refine (pick p _ 6 W C0.out (by omega) (by omega) (by omega)).mono ?_
  rintro e w1 ⟨r, rfl, r0, r1, hcN, hgN⟩
  have O2 := Lib.hid (own_kept O0.out hgN (fun g e => by cases e; exact hp))
  have C2 := Lib.hid hcN
  have G2 := Lib.hid (grown_trans G0.out hgN)
  clear hcN hgN O0 C0 G0
  obtain ⟨q0, rfl⟩ := Int.eq_ofNat_of_zero_le r0
  go_wp2_with fail
  go_loopw [3, 4, 5, 6] (fun v av nv _ wr => ∃ (t k : Nat) (a : Int) (zs : List Int), t + k ≤ 5 ∧ nv = .int .i64 (t : Int) ∧ av = .int .i64 a ∧ 0 ≤ a ∧ a + 3 * t ≤ 15 ∧ wr.ownsRow w.heap.size 25 6 v k (cellsI zs) ∧ Cur wr p (m + 220 - 40 * t) ∧ w.grownBy wr (some p)) (fun _ _ nv _ _ => (intOf nv).toNat)
  case atStart => exact ⟨q0, 0, 0, [], by omega, rfl, rfl, by omega, by omega, O2.out, C2.out.more (by omega), G2.out⟩
  case round =>
    obtain ⟨t, k, a, zs, ht, rfl, rfl, a0, a1, ho, hc, hg⟩ := hrel
    clear O2 C2 G2
    have O3 := Lib.hid ho
    have C3 := Lib.hid hc
    have G3 := Lib.hid hg
    clear ho hc hg
    by_cases hlt : 0 < t
    · have hlt2 : (0 : Int) < (t : Int) := by omega
      have e4 : IntKind.i64.wrap ((t : Int) - 1) = (t : Int) - 1 := IntWalk.i64_in _ (by omega)
      have e1 : IntKind.i64.wrap (a + 1) = a + 1 := IntWalk.i64_in _ (by omega)
      go_wp2_with fail
      refine (track p _ wr C3.out (by omega)).mono ?_
      rintro e w4 ⟨x0, x1, x2, x3, x4, x5, rfl, hcN, hgN⟩
      have O4 := Lib.hid (own_kept O3.out hgN (fun g e => by cases e; exact hp))
      have G4 := Lib.hid (grown_trans G3.out hgN)
      have C5 := Lib.hid (Cur.alloc hcN (.cells #[.int .i64 x0, .int .i64 x1, .int .i64 x2, .int .i64 x3, .int .i64 x4, .int .i64 x5] 25))
      have hbp : p < w4.heap.size := hcN.lt
      have hwb : w.heap.size ≤ w4.heap.size := G4.out.size
      have HOB := Lib.hid (fun g (e : Value.ownBlock _ = some g) => own_row_lt O4.out g e)
      have O5 := Lib.hid (O4.out.alloc (.cells #[.int .i64 x0, .int .i64 x1, .int .i64 x2, .int .i64 x3, .int .i64 x4, .int .i64 x5] 25))
      have G5 := Lib.hid (grown_trans G4.out (grown_alloc (.cells #[.int .i64 x0, .int .i64 x1, .int .i64 x2, .int .i64 x3, .int .i64 x4, .int .i64 x5] 25) (some p)))
      have BX := Lib.hid (Blk.new 25 #[.int .i64 x0, .int .i64 x1, .int .i64 x2, .int .i64 x3, .int .i64 x4, .int .i64 x5] w4)
      clear hcN hgN O3 C3 G3 O4 G4
      go_upto_region 7 with fail
      generalize w4.alloc (.cells #[.int .i64 x0, .int .i64 x1, .int .i64 x2, .int .i64 x3, .int .i64 x4, .int .i64 x5] 25) = w5 at *
      generalize w4.heap.size = bx at *
      go_wp2_with fail
      refine (pick p _ 3 w5 C5.out (by omega) (by omega) (by omega)).mono ?_
      rintro e w6 ⟨r, rfl, r0, r1, hcN, hgN⟩
      have O6 := own_kept O5.out hgN (fun g e => by cases e; exact hp)
      have BX6 := BX.out.grown hgN (Nat.ne_of_gt hbp)
      have e2 : IntKind.i64.wrap (a + 1 + r) = a + 1 + r := IntWalk.i64_in _ (by omega)
      have O7 := Lib.hid (own_kept_at O6 (lst.grown_set (lst.grown_refl w6 (some bx)) 0 (.int .i64 (a + 1 + r))) (fun g e1 e2 => by injection e2 with e2; have := HOB.out g e1; omega))
      have C7 := Lib.hid (Cur.set hcN hbp (i := 0) (v := .int .i64 (a + 1 + r)))
      have G7 := Lib.hid (grown_put (grown_trans G5.out hgN) hwb (i := 0) (v := .int .i64 (a + 1 + r)))
      have B7 := Lib.hid (BX6.set 0 (.int .i64 (a + 1 + r)))
      have BX := Lib.hid BX6
      clear hcN hgN O6 BX6 O5 C5 G5
      have b0 : w6.cell? ⟨bx, 0, none⟩ = some (.int .i64 x0) := BX.out.cell 0 _ rfl
      have bf0 := BX.out.frozen 0
      have b1 : w6.cell? ⟨bx, 1, none⟩ = some (.int .i64 x1) := BX.out.cell 1 _ rfl
      have bf1 := BX.out.frozen 1
      have b2 : w6.cell? ⟨bx, 2, none⟩ = some (.int .i64 x2) := BX.out.cell 2 _ rfl
      have bf2 := BX.out.frozen 2
      have b3 : w6.cell? ⟨bx, 3, none⟩ = some (.int .i64 x3) := BX.out.cell 3 _ rfl
      have bf3 := BX.out.frozen 3
      have b4 : w6.cell? ⟨bx, 4, none⟩ = some (.int .i64 x4) := BX.out.cell 4 _ rfl
      have bf4 := BX.out.frozen 4
      have b5 : w6.cell? ⟨bx, 5, none⟩ = some (.int .i64 x5) := BX.out.cell 5 _ rfl
      have bf5 := BX.out.frozen 5
      go_upto_region 9 with fail
      clear b0 bf0 b1 bf1 b2 bf2 b3 bf3 b4 bf4 b5 bf5
      generalize w6.setCell ⟨bx, 0, none⟩ (.int .i64 (a + 1 + r)) = w7 at *
      have BX := Lib.hid (show Blk 25 #[.int .i64 (a + 1 + r), .int .i64 x1, .int .i64 x2, .int .i64 x3, .int .i64 x4, .int .i64 x5] w7 bx from B7.out)
      clear B7
      have b0 : w7.cell? ⟨bx, 0, none⟩ = some (.int .i64 (a + 1 + r)) := BX.out.cell 0 _ rfl
      have b1 : w7.cell? ⟨bx, 1, none⟩ = some (.int .i64 x1) := BX.out.cell 1 _ rfl
      have b2 : w7.cell? ⟨bx, 2, none⟩ = some (.int .i64 x2) := BX.out.cell 2 _ rfl
      have b3 : w7.cell? ⟨bx, 3, none⟩ = some (.int .i64 x3) := BX.out.cell 3 _ rfl
      have b4 : w7.cell? ⟨bx, 4, none⟩ = some (.int .i64 x4) := BX.out.cell 4 _ rfl
      have b5 : w7.cell? ⟨bx, 5, none⟩ = some (.int .i64 x5) := BX.out.cell 5 _ rfl
      go_wp2_with fail
      refine (trks.good14 (a + 1 + r) x1 x2 x3 x4 x5 w7).mono ?_
      rintro e w8 ⟨rfl, hb⟩
      clear b0 b1 b2 b3 b4 b5
      have O8 := Lib.hid (own_.own_below O7.out hb)
      have C8 := Lib.hid (Cur.below C7.out hb)
      have G8 := Lib.hid (grown_trans G7.out (grown_below hb))
      have BX := Lib.hid (BX.out.below hb)
      clear hb O7 C7 G7
      generalize tkB (a + 1 + r) x1 x2 x3 x4 x5 = bb at *
      cases bb
      · go_wp2_with fail
        refine (one p _ 12 w8 C8.out (by omega) (by omega) (by omega)).mono ?_
        rintro e wa ⟨b, rfl, hcN, hgN⟩
        have OA := Lib.hid (own_kept O8.out hgN (fun g e => by cases e; exact hp))
        have CA := Lib.hid hcN
        have GA := Lib.hid (grown_trans G8.out hgN)
        have BX := Lib.hid (BX.out.grown hgN (Nat.ne_of_gt hbp))
        clear hcN hgN O8 C8 G8
        cases b
        · go_wp2_with fail
          go_roundw
          case rel => exact ⟨t - 1, k, a + 1 + r, zs, by omega, (by show Value.int .i64 _ = Value.int .i64 _; congr 1; omega), rfl, by omega, by omega, OA.out, CA.out.more (by omega), GA.out⟩
          case measure => simp [intOf]; omega
        · have HSZ := Lib.hid GA.out.size
          have b0 : wa.cell? ⟨bx, 0, none⟩ = some (.int .i64 (a + 1 + r)) := BX.out.cell 0 _ rfl
          have b1 : wa.cell? ⟨bx, 1, none⟩ = some (.int .i64 x1) := BX.out.cell 1 _ rfl
          have b2 : wa.cell? ⟨bx, 2, none⟩ = some (.int .i64 x2) := BX.out.cell 2 _ rfl
          have b3 : wa.cell? ⟨bx, 3, none⟩ = some (.int .i64 x3) := BX.out.cell 3 _ rfl
          have b4 : wa.cell? ⟨bx, 4, none⟩ = some (.int .i64 x4) := BX.out.cell 4 _ rfl
          have b5 : wa.cell? ⟨bx, 5, none⟩ = some (.int .i64 x5) := BX.out.cell 5 _ rfl
          go_wp2_with (at_builtin; refine wpList_append_own _ rfl (.tmp 30) (.tmp 32) 33 rfl w.heap.size 25 i0 (.agg #[.int .i64 0, .int .i64 0, .int .i64 0, .int .i64 0, .int .i64 0, .int .i64 0]) 6 48 Tryz.underlying33 hi hz0 hz1 hz2 rfl (by decide) _ k (cellsI zs) rfl (OA.out.alloc _) ⟨wa.heap.size, 0, none⟩ 1 1 [.int .i64 (a + 1 + r), .int .i64 x1, .int .i64 x2, .int .i64 x3, .int .i64 x4, .int .i64 x5] rfl rfl (cells_new _ _ #[.int .i64 (a + 1 + r), .int .i64 x1, .int .i64 x2, .int .i64 x3, .int .i64 x4, .int .i64 x5]) (six_cells _ _ _ _ _ _) (by unfold maxLen; omega) (by omega) (by rw [World.size_alloc]; have := HSZ.out; omega) ?_; intro v' w9 hown' hgrow hnil)
          have C9 := Lib.hid (cur_append CA.out OA.out hp HSZ.out hgrow)
          have G9 := Lib.hid (grown_append GA.out OA.out (Nat.le_refl _) hgrow)
          have O9 := Lib.hid (own_grow6 hown')
          clear hown' hgrow hnil OA CA GA HSZ
          go_wp2_with fail
          go_roundw
          case rel => exact ⟨t - 1, k + 1, a + 1 + r, _, by omega, (by show Value.int .i64 _ = Value.int .i64 _; congr 1; omega), rfl, by omega, by omega, O9.out, C9.out.more (by omega), G9.out⟩
          case measure => simp [intOf]; omega
      · have HSZ := Lib.hid G8.out.size
        have b0 : w8.cell? ⟨bx, 0, none⟩ = some (.int .i64 (a + 1 + r)) := BX.out.cell 0 _ rfl
        have b1 : w8.cell? ⟨bx, 1, none⟩ = some (.int .i64 x1) := BX.out.cell 1 _ rfl
        have b2 : w8.cell? ⟨bx, 2, none⟩ = some (.int .i64 x2) := BX.out.cell 2 _ rfl
        have b3 : w8.cell? ⟨bx, 3, none⟩ = some (.int .i64 x3) := BX.out.cell 3 _ rfl
        have b4 : w8.cell? ⟨bx, 4, none⟩ = some (.int .i64 x4) := BX.out.cell 4 _ rfl
        have b5 : w8.cell? ⟨bx, 5, none⟩ = some (.int .i64 x5) := BX.out.cell 5 _ rfl
        go_wp2_with (at_builtin; refine wpList_append_own _ rfl (.tmp 30) (.tmp 32) 33 rfl w.heap.size 25 i0 (.agg #[.int .i64 0, .int .i64 0, .int .i64 0, .int .i64 0, .int .i64 0, .int .i64 0]) 6 48 Tryz.underlying33 hi hz0 hz1 hz2 rfl (by decide) _ k (cellsI zs) rfl (O8.out.alloc _) ⟨w8.heap.size, 0, none⟩ 1 1 [.int .i64 (a + 1 + r), .int .i64 x1, .int .i64 x2, .int .i64 x3, .int .i64 x4, .int .i64 x5] rfl rfl (cells_new _ _ #[.int .i64 (a + 1 + r), .int .i64 x1, .int .i64 x2, .int .i64 x3, .int .i64 x4, .int .i64 x5]) (six_cells _ _ _ _ _ _) (by unfold maxLen; omega) (by omega) (by rw [World.size_alloc]; have := HSZ.out; omega) ?_; intro v' w9 hown' hgrow hnil)
        have C9 := Lib.hid (cur_append C8.out O8.out hp HSZ.out hgrow)
        have G9 := Lib.hid (grown_append G8.out O8.out (Nat.le_refl _) hgrow)
        have O9 := Lib.hid (own_grow6 hown')
        clear hown' hgrow hnil O8 C8 G8 HSZ
        go_wp2_with fail
        go_roundw
        case rel => exact ⟨t - 1, k + 1, a + 1 + r, _, by omega, (by show Value.int .i64 _ = Value.int .i64 _; congr 1; omega), rfl, by omega, by omega, O9.out, C9.out.more (by omega), G9.out⟩
        case measure => simp [intOf]; omega
    · obtain rfl : t = 0 := by omega
      go_wp2_with fail
      refine (pick p _ 24 wr C3.out (by omega) (by omega) (by omega)).mono ?_
      rintro e w4 ⟨i, rfl, i0', i1', hcN, hgN⟩
      have O4 := Lib.hid (own_kept O3.out hgN (fun g e => by cases e; exact hp))
      have C4 := Lib.hid hcN
      have G4 := Lib.hid (grown_trans G3.out hgN)
      clear hcN hgN O3 C3 G3
      by_cases h0 : i = 0
      · subst h0
        go_wp2_with fail
        refine (track p _ w4 C4.out (by omega)).mono ?_
        rintro e w5 ⟨x0, x1, x2, x3, x4, x5, rfl, hcN, hgN⟩
        have O5 := Lib.hid (own_kept O4.out hgN (fun g e => by cases e; exact hp))
        have C5 := Lib.hid hcN
        have G5 := Lib.hid (grown_trans G4.out hgN)
        have HSZ := Lib.hid G5.out.size
        clear hcN hgN O4 C4 G4
        go_wp2_with (at_builtin; refine wpList_append_own _ rfl (.tmp 38) (.tmp 41) 33 rfl w.heap.size 25 i0 (.agg #[.int .i64 0, .int .i64 0, .int .i64 0, .int .i64 0, .int .i64 0, .int .i64 0]) 6 48 Tryz.underlying33 hi hz0 hz1 hz2 rfl (by decide) _ k (cellsI zs) rfl (O5.out.alloc _) ⟨w5.heap.size, 0, none⟩ 1 1 [.int .i64 x0, .int .i64 x1, .int .i64 x2, .int .i64 x3, .int .i64 x4, .int .i64 x5] rfl rfl (cells_new _ _ #[.int .i64 x0, .int .i64 x1, .int .i64 x2, .int .i64 x3, .int .i64 x4, .int .i64 x5]) (six_cells _ _ _ _ _ _) (by unfold maxLen; omega) (by omega) (by rw [World.size_alloc]; have := HSZ.out; omega) ?_; intro v' w9 hown' hgrow hnil)
        have C9 := Lib.hid (cur_append C5.out O5.out hp HSZ.out hgrow)
        have G9 := Lib.hid (grown_append G5.out O5.out (Nat.le_refl _) hgrow)
        have O9 := Lib.hid (own_grow6 hown')
        clear hown' hgrow hnil O5 C5 G5 HSZ
        go_wp2_with fail
        go_ret
        exact ⟨_, k + 1, _, rfl, O9.out, by omega, C9.out.more (by omega), G9.out⟩
      have d0 : (i == 0) = false := by simpa using h0
      by_cases h1 : i = 1
      · subst h1
        obtain ⟨A4, c4, rfl⟩ := own_sliceZ O4.out
        go_wp2_with fail
        go_loopw [3, 7] (fun v nv wr => ∃ (l j : Nat) (A' : Option Addr) (c' : Nat) (ys : List Int), l ≤ 7 ∧ j ≤ 8 ∧ v = .slice A' l c' ∧ nv = .int .i64 (j : Int) ∧ wr.ownsRow w.heap.size 25 6 (.slice A' l c') l (cellsI ys) ∧ Cur wr p (m + 300 + 4 * j) ∧ w.grownBy wr (some p)) (fun _ nv _ => 8 - (intOf nv).toNat)
        case atStart => exact ⟨k, 0, A4, c4, zs, by omega, by omega, rfl, rfl, O4.out, C4.out.more (by omega), G4.out⟩
        case round =>
          obtain ⟨l, j, A', c', ys, hl7, hj8, rfl, rfl, ho, hc, hg⟩ := hrel
          clear O4 C4 G4
          go_wp2_with fail
          refine (pick p _ 2 wr hc (by omega) (by omega) (by omega)).mono ?_
          rintro e w7 ⟨r, rfl, r0, r1, hcN, hgN⟩
          have O7 := Lib.hid (own_kept ho hgN (fun g e => by cases e; exact hp))
          have C7 := Lib.hid hcN
          have G7 := Lib.hid (grown_trans hg hgN)
          have HSZ := Lib.hid G7.out.size
          have e5 : IntKind.i64.wrap (6 + r) = 6 + r := IntWalk.i64_in _ (by omega)
          have e6 : IntKind.i64.wrap ((j : Int) + 1) = ((j + 1 : Nat) : Int) := by rw [IntWalk.i64_in _ (by omega)]; omega
          have e7 : IntKind.i64.wrap (100 + (j : Int)) = 100 + (j : Int) := IntWalk.i64_in _ (by omega)
          clear ho hc hg hcN hgN
          by_cases hlt3 : (l : Int) < 6 + r
          · by_cases hj : (j : Int) < 8
            · go_wp2_with (at_builtin; refine wpList_append_own _ rfl (.tmp 57) (.tmp 61) 33 rfl w.heap.size 25 i0 (.agg #[.int .i64 0, .int .i64 0, .int .i64 0, .int .i64 0, .int .i64 0, .int .i64 0]) 6 48 Tryz.underlying33 hi hz0 hz1 hz2 rfl (by decide) _ l (cellsI ys) rfl (O7.out.alloc _) ⟨w7.heap.size, 0, none⟩ 1 1 [.int .i64 (100 + (j : Int)), .int .i64 1, .int .i64 0, .int .i64 0, .int .i64 1, .int .i64 0] rfl rfl (cells_new _ _ #[.int .i64 (100 + (j : Int)), .int .i64 1, .int .i64 0, .int .i64 0, .int .i64 1, .int .i64 0]) (six_cells _ _ _ _ _ _) (by unfold maxLen; omega) (by omega) (by rw [World.size_alloc]; have := HSZ.out; omega) ?_; intro v' w9 hown' hgrow hnil)
              have C9 := Lib.hid (cur_append C7.out O7.out hp HSZ.out hgrow)
              have G9 := Lib.hid (grown_append G7.out O7.out (Nat.le_refl _) hgrow)
              have O9 := Lib.hid (own_grow6 hown')
              clear hown' hgrow hnil O7 C7 G7 HSZ
              obtain ⟨A9, c9, rfl⟩ := own_sliceZ O9.out
              go_wp2_with fail
              go_roundw
              case rel => exact ⟨l + 1, j + 1, A9, c9, _, by omega, by omega, rfl, rfl, O9.out, C9.out.more (by omega), G9.out⟩
              case measure => simp [intOf]; omega
            · go_wp2_with fail
              go_ret
              exact ⟨_, l, ys, rfl, O7.out, by omega, C7.out.more (by omega), G7.out⟩
          · go_wp2_with fail
            go_ret
            exact ⟨_, l, ys, rfl, O7.out, by omega, C7.out.more (by omega), G7.out⟩
      have d1 : (i == 1) = false := by simpa using h1
      by_cases h2 : i = 2
      · subst h2
        go_wp2_with fail
        refine (among_new (999) 1000 p _ 2 [999, 1000] _ w4 C4.out (by omega) (by omega) (by omega) rfl rfl (by decide)).mono ?_
        rintro e w5 ⟨z, rfl, z0, z1, hcN, hgN⟩
        have O5 := Lib.hid (own_kept O4.out hgN (fun g e => by cases e; exact hp))
        have C5 := Lib.hid hcN
        have G5 := Lib.hid (grown_trans G4.out hgN)
        have HSZ := Lib.hid G5.out.size
        clear hcN hgN O4 C4 G4
        go_wp2_with (at_builtin; refine wpList_append_own _ rfl (.tmp 65) (.tmp 70) 33 rfl w.heap.size 25 i0 (.agg #[.int .i64 0, .int .i64 0, .int .i64 0, .int .i64 0, .int .i64 0, .int .i64 0]) 6 48 Tryz.underlying33 hi hz0 hz1 hz2 rfl (by decide) _ k (cellsI zs) rfl (O5.out.alloc _) ⟨w5.heap.size, 0, none⟩ 1 1 [.int .i64 z, .int .i64 2, .int .i64 0, .int .i64 0, .int .i64 9999, .int .i64 0] rfl rfl (cells_new _ _ #[.int .i64 z, .int .i64 2, .int .i64 0, .int .i64 0, .int .i64 9999, .int .i64 0]) (six_cells _ _ _ _ _ _) (by unfold maxLen; omega) (by omega) (by rw [World.size_alloc]; have := HSZ.out; omega) ?_; intro v' w9 hown' hgrow hnil)
        have C9 := Lib.hid (cur_append C5.out O5.out hp HSZ.out hgrow)
        have G9 := Lib.hid (grown_append G5.out O5.out (Nat.le_refl _) hgrow)
        have O9 := Lib.hid (own_grow6 hown')
        clear hown' hgrow hnil O5 C5 G5 HSZ
        go_wp2_with fail
        go_ret
        exact ⟨_, k + 1, _, rfl, O9.out, by omega, C9.out.more (by omega), G9.out⟩
      have d2 : (i == 2) = false := by simpa using h2
      go_wp2_with fail
      go_ret
      exact ⟨_, k, zs, rfl, O4.out, by omega, C4.out.more (by omega), G4.out⟩

end Go.Proofs.YtfigjfckelichaaGreatDoor.drawt14

/- spec's draws of plots and of a gate. -/
namespace Go.Proofs.YtfigjfckelichaaGreatDoor.drawu14
open Go.RowKit Go.Proofs.YtfigjfckelichaaGreatDoor.cur Go.Proofs.YtfigjfckelichaaGreatDoor.atc Go.Proofs.YtfigjfckelichaaGreatDoor.ats Go.Proofs.YtfigjfckelichaaGreatDoor.ints Go.Proofs.YtfigjfckelichaaGreatDoor.lst Go.Proofs.YtfigjfckelichaaGreatDoor.code_ Go.Proofs.YtfigjfckelichaaGreatDoor.draws14 Go.Proofs.YtfigjfckelichaaGreatDoor.drawt14 Go.Proofs.YtfigjfckelichaaGreatDoor.trk Go.Proofs.YtfigjfckelichaaGreatDoor.tailh

theorem infoP : (Tryz.prog.info? 35).map (fun i => (i.zero, i.size, i.bytes)) = some (some (.agg #[.int .i64 0, .int .i64 0]), 2, 16) := by kernel_rfl
theorem own_grow2 {w : World} {B e n : Nat} {v : Value} {xs : List Int} {x0 x1 : Int} (h : w.ownsRow B e 2 v (n + 1) (cellsI xs ++ [.int .i64 x0, .int .i64 x1])) : w.ownsRow B e 2 v (n + 1) (cellsI (xs ++ [x0, x1])) := by
  unfold cellsI at h ⊢
  rw [List.map_append]
  exact h
theorem own_len2 {w : World} {B e n : Nat} {v : Value} {xs : List Int} (h : w.ownsRow B e 2 v n (cellsI xs)) : xs.length = n * 2 := by have := h.1; unfold cellsI at this; simpa using this
theorem own_pos {w : World} {B e s n c : Nat} {A : Option Addr} {xs : List Value} (h : w.ownsRow B e s (.slice A n c) n xs) (hn : 0 < n) : ∃ g, A = some ⟨g, 0, none⟩ ∧ n ≤ c := by
  rcases h.2 with ⟨_, e2⟩ | ⟨g, cap, cur, e2, _, _, hle, _⟩
  · omega
  · injection e2 with e2 e3 e4
    subst e4
    exact ⟨g, e2, hle⟩
theorem least14_least (a b : Int) (w : World) :
    Calls Tryz.prog 111 #[.int .i64 a, .int .i64 b] w fun e w' => (∃ z : Int, e = .returned (.int .i64 z)) ∧ w' = w := by
  rcases Int.lt_trichotomy a b with h | h | h
  · have g1 : decide (a < b) = true := decide_eq_true h
    have g2 : decide (b < a) = false := decide_eq_false (by omega)
    clear h
    go_enter Tryz.func111, Tryz.ntmps111
    go_wp2_with fail
    go_ret
    exact ⟨⟨_, rfl⟩, rfl⟩
  · have g1 : decide (a < b) = false := decide_eq_false (by omega)
    have g2 : decide (b < a) = false := decide_eq_false (by omega)
    clear h
    go_enter Tryz.func111, Tryz.ntmps111
    go_wp2_with fail
    go_ret
    exact ⟨⟨_, rfl⟩, rfl⟩
  · have g1 : decide (a < b) = false := decide_eq_false (by omega)
    have g2 : decide (b < a) = true := decide_eq_true h
    clear h
    go_enter Tryz.func111, Tryz.ntmps111
    go_wp2_with fail
    go_ret
    exact ⟨⟨_, rfl⟩, rfl⟩
theorem least14_most (a b : Int) (w : World) :
    Calls Tryz.prog 110 #[.int .i64 a, .int .i64 b] w fun e w' => (∃ z : Int, e = .returned (.int .i64 z)) ∧ w' = w := by
  rcases Int.lt_trichotomy a b with h | h | h
  · have g1 : decide (a < b) = true := decide_eq_true h
    have g2 : decide (b < a) = false := decide_eq_false (by omega)
    clear h
    go_enter Tryz.func110, Tryz.ntmps110
    go_wp2_with fail
    go_ret
    exact ⟨⟨_, rfl⟩, rfl⟩
  · have g1 : decide (a < b) = false := decide_eq_false (by omega)
    have g2 : decide (b < a) = false := decide_eq_false (by omega)
    clear h
    go_enter Tryz.func110, Tryz.ntmps110
    go_wp2_with fail
    go_ret
    exact ⟨⟨_, rfl⟩, rfl⟩
  · have g1 : decide (a < b) = false := decide_eq_false (by omega)
    have g2 : decide (b < a) = true := decide_eq_true h
    clear h
    go_enter Tryz.func110, Tryz.ntmps110
    go_wp2_with fail
    go_ret
    exact ⟨⟨_, rfl⟩, rfl⟩
theorem gate (p m : Nat) (w : World) (h : Cur w p m) (hm : m ≤ 500000) :
    Calls Tryz.prog 86 #[.pointer (some ⟨p, 0, none⟩)] w (Reads (-1) 1001 p (m + 2) w) := by
  have hx := Lib.hid (among_new (-1) 1001 p m 11 [0, 5, 10, 20, 30, 40, 1000, 1001, -1, 25, 15] #[.int .i64 0, .int .i64 5, .int .i64 10, .int .i64 20, .int .i64 30, .int .i64 40, .int .i64 1000, .int .i64 1001, .int .i64 (-1), .int .i64 25, .int .i64 15] w h (by omega) (by omega) (by omega) rfl rfl (by decide))
  clear h
  go_enter Tryz.func86, Tryz.ntmps86
  go_wp2_with fail
  refine hx.out.mono ?_
  rintro e w1 ⟨x, rfl, x0, x1, hc, hg⟩
  have H := Lib.hid (show ∃ z : Int, (Ending.returned (.int .i64 x)) = .returned (.int .i64 z) ∧ -1 ≤ z ∧ z ≤ 1001 ∧ Cur w1 p (m + 2) ∧ w.grownBy w1 (some p) from ⟨x, rfl, x0, x1, hc, hg⟩)
  clear x0 x1 hc hg
  go_wp2_with fail
  go_ret
  exact H.out
def PlotsQ (p m : Nat) (w : World) (e : Ending) (w' : World) : Prop := ∃ v n zs, e = .returned v ∧ w'.ownsRow w.heap.size 35 2 v n (cellsI zs) ∧ n ≤ 7 ∧ Cur w' p m ∧ w.grownBy w' (some p)
set_option maxRecDepth 100000 in
set_option maxHeartbeats 16000000 in
theorem plots (zs0 : List Int) (A : Option Addr) (n c B p m : Nat) (w : World) (h : Cur w p m) (hm : m ≤ 100000) (hn : n ≤ 9) (hpB : p < B) (ho0 : w.ownsRow B 25 6 (.slice A n c) n (cellsI zs0)) :
    Calls Tryz.prog 85 #[.pointer (some ⟨p, 0, none⟩), .slice A n c] w (PlotsQ p (m + 400) w) := by
  have hp := h.lt
  obtain ⟨i0, hi, hz0, hz1, hz2⟩ := info_parts infoP
  have LI := Lib.hid ho0
  have HLZ := Lib.hid (own_len6 ho0)
  have O0 := Lib.hid (own_emptyZ w 35 2)
  have C0 := Lib.hid (h.keep ((Below.refl (p + 1) w).alloc (by omega) (.cells #[] 35)))
  have G0 := Lib.hid (show w.grownBy (w.alloc (.cells #[] 35)) (some p) from grown_alloc _ _)
  clear h ho0
  go_enter Tryz.func85, Tryz.ntmps85
  go_upto_region 2 with fail
  generalize w.alloc (.cells #[] 35) = W at *
  go_wp2_with fail
  refine (pick p _ 5 W C0.out (by omega) (by omega) (by omega)).mono ?_
  rintro e w1 ⟨r, rfl, r0, r1, hcN, hgN⟩
  have O2 := Lib.hid (own_kept O0.out hgN (fun g e => by cases e; exact hp))
  have C2 := Lib.hid hcN
  have G2 := Lib.hid (grown_trans G0.out hgN)
  clear hcN hgN O0 C0 G0
  obtain ⟨q0, rfl⟩ := Int.eq_ofNat_of_zero_le r0
  go_wp2_with fail
  go_loopw [5, 6, 7, 8] (fun v nv _ _ wr => ∃ (t k : Nat) (zs : List Int), t + k ≤ 4 ∧ nv = .int .i64 (t : Int) ∧ wr.ownsRow w.heap.size 35 2 v k (cellsI zs) ∧ Cur wr p (m + 200 - 40 * t) ∧ w.grownBy wr (some p)) (fun _ nv _ _ _ => (intOf nv).toNat)
  case atStart => exact ⟨q0, 0, [], by omega, rfl, O2.out, C2.out.more (by omega), G2.out⟩
  case round =>
    obtain ⟨t, k, zs, ht, rfl, ho, hc, hg⟩ := hrel
    clear O2 C2 G2
    have O3 := Lib.hid ho
    have C3 := Lib.hid hc
    have G3 := Lib.hid hg
    clear ho hc hg
    by_cases hlt : 0 < t
    · have hlt2 : (0 : Int) < (t : Int) := by omega
      have e4 : IntKind.i64.wrap ((t : Int) - 1) = (t : Int) - 1 := IntWalk.i64_in _ (by omega)
      go_wp2_with fail
      refine (drawp7.place p _ wr C3.out (by omega)).mono ?_
      rintro e w4 ⟨x, y, rfl, -, hcN, hgN⟩
      have O4 := own_kept O3.out hgN (fun g e => by cases e; exact hp)
      have G4 := grown_trans G3.out hgN
      have hpp : p < w4.heap.size := hcN.lt
      have hwp : w.heap.size ≤ w4.heap.size := G4.size
      have hobl := own_row_lt O4
      have HPB := Lib.hid (show ∀ g, Value.ownBlock _ = some g → some w4.heap.size ≠ some g from fun g e e2 => by injection e2 with e2; have := hobl g e; omega)
      have O5 := Lib.hid (O4.alloc (.cells #[.int .i64 x, .int .i64 y] 35))
      have G5 := Lib.hid (grown_trans G4 (grown_alloc (.cells #[.int .i64 x, .int .i64 y] 35) (some p)))
      have C5 := Lib.hid (Cur.alloc hcN (.cells #[.int .i64 x, .int .i64 y] 35))
      have P5 := Lib.hid (Blk.new 35 #[.int .i64 x, .int .i64 y] w4)
      clear hcN hgN O3 C3 G3 O4 G4 hobl
      go_upto_region 6 with fail
      generalize w4.alloc (.cells #[.int .i64 x, .int .i64 y] 35) = w5 at *
      generalize w4.heap.size = pb at *
      rcases Nat.eq_zero_or_pos n with hn0 | hn0
      · subst hn0
        have n1 : ((0 : Nat) : Int) = 0 := rfl
        have HSZ := Lib.hid G5.out.size
        have b0 : w5.cell? ⟨pb, 0, none⟩ = some (.int .i64 x) := P5.out.cell 0 _ rfl
        have b1 : w5.cell? ⟨pb, 1, none⟩ = some (.int .i64 y) := P5.out.cell 1 _ rfl
        go_wp2_with (at_builtin; refine wpList_append_own _ rfl (.tmp 51) (.tmp 53) 46 rfl w.heap.size 35 i0 (.agg #[.int .i64 0, .int .i64 0]) 2 16 Tryz.underlying46 hi hz0 hz1 hz2 rfl (by decide) _ k (cellsI zs) rfl (O5.out.alloc _) ⟨w5.heap.size, 0, none⟩ 1 1 [.int .i64 x, .int .i64 y] rfl rfl (cells_new _ _ #[.int .i64 x, .int .i64 y]) (two_cells _ _) (by unfold maxLen; omega) (by omega) (by rw [World.size_alloc]; have := HSZ.out; omega) ?_; intro v' w9 hown' hgrow hnil)
        have C9 := Lib.hid (cur_append C5.out O5.out hp HSZ.out hgrow)
        have G9 := Lib.hid (grown_append G5.out O5.out (Nat.le_refl _) hgrow)
        have O9 := Lib.hid (own_grow2 hown')
        clear hown' hgrow hnil O5 C5 G5 HSZ
        go_wp2_with fail
        go_roundw
        case rel => exact ⟨t - 1, k + 1, _, by omega, (by show Value.int .i64 _ = Value.int .i64 _; congr 1; omega), O9.out, C9.out.more (by omega), G9.out⟩
        case measure => simp [intOf]; omega
      have hn1 : (0 : Int) < (n : Int) := by omega
      go_wp2_with fail
      refine (one p _ 3 w5 C5.out (by omega) (by omega) (by omega)).mono ?_
      rintro e w6 ⟨b, rfl, hcN, hgN⟩
      have O6 := Lib.hid (own_kept O5.out hgN (fun g e => by cases e; exact hp))
      have G6 := Lib.hid (grown_trans G5.out hgN)
      have C6 := Lib.hid hcN
      have P6 := Lib.hid (P5.out.grown hgN (Nat.ne_of_gt hpp))
      clear hcN hgN O5 G5 C5 P5
      cases b
      rotate_left
      · have HSZ := Lib.hid G6.out.size
        have b0 : w6.cell? ⟨pb, 0, none⟩ = some (.int .i64 x) := P6.out.cell 0 _ rfl
        have b1 : w6.cell? ⟨pb, 1, none⟩ = some (.int .i64 y) := P6.out.cell 1 _ rfl
        go_wp2_with (at_builtin; refine wpList_append_own _ rfl (.tmp 51) (.tmp 53) 46 rfl w.heap.size 35 i0 (.agg #[.int .i64 0, .int .i64 0]) 2 16 Tryz.underlying46 hi hz0 hz1 hz2 rfl (by decide) _ k (cellsI zs) rfl (O6.out.alloc _) ⟨w6.heap.size, 0, none⟩ 1 1 [.int .i64 x, .int .i64 y] rfl rfl (cells_new _ _ #[.int .i64 x, .int .i64 y]) (two_cells _ _) (by unfold maxLen; omega) (by omega) (by rw [World.size_alloc]; have := HSZ.out; omega) ?_; intro v' w9 hown' hgrow hnil)
        have C9 := Lib.hid (cur_append C6.out O6.out hp HSZ.out hgrow)
        have G9 := Lib.hid (grown_append G6.out O6.out (Nat.le_refl _) hgrow)
        have O9 := Lib.hid (own_grow2 hown')
        clear hown' hgrow hnil O6 C6 G6 HSZ
        go_wp2_with fail
        go_roundw
        case rel => exact ⟨t - 1, k + 1, _, by omega, (by show Value.int .i64 _ = Value.int .i64 _; congr 1; omega), O9.out, C9.out.more (by omega), G9.out⟩
        case measure => simp [intOf]; omega
      go_wp2_with fail
      refine (pick p _ (n : Int) w6 C6.out (by omega) (by omega) (by omega)).mono ?_
      rintro e w7 ⟨r, rfl, r0, r1, hcN, hgN⟩
      have O7 := Lib.hid (own_kept O6.out hgN (fun g e => by cases e; exact hp))
      have G7 := Lib.hid (grown_trans G6.out hgN)
      have C7 := Lib.hid hcN
      have P7 := Lib.hid (P6.out.grown hgN (Nat.ne_of_gt hpp))
      clear hcN hgN O6 G6 C6 P6
      obtain ⟨kk, rfl⟩ := Int.eq_ofNat_of_zero_le r0
      have hkk : kk < n := by omega
      have hkki : (kk : Int) < (n : Int) := by omega
      have hkk0 : (0 : Int) ≤ (kk : Int) := r0
      have hli := own_kept LI.out G7.out (fun g e => by cases e; exact hpB)
      obtain ⟨gl, eA, hnc⟩ := own_pos hli hn0
      subst eA
      obtain ⟨b, o, eA, hbl, q0, q1, q2, q3, q4, q5⟩ := trke.cellsE (RdZ.of_own hli HLZ.out) hkk
      obtain ⟨rfl, rfl⟩ : gl = b ∧ 0 = o := by injection eA with e; injection e with e1 e2; exact ⟨e1, e2⟩
      rw [Nat.zero_add] at q0 q1 q2 q3 q4 q5
      generalize fld 6 zs0 kk 0 = f0 at *
      generalize fld 6 zs0 kk 1 = f1 at *
      generalize fld 6 zs0 kk 2 = f2 at *
      generalize fld 6 zs0 kk 3 = f3 at *
      generalize fld 6 zs0 kk 4 = f4 at *
      generalize fld 6 zs0 kk 5 = f5 at *
      have T7 := Lib.hid (Blk.new 25 #[.int .i64 f0, .int .i64 f1, .int .i64 f2, .int .i64 f3, .int .i64 f4, .int .i64 f5] w7)
      have htp : p < w7.heap.size := C7.out.lt
      have O7' := Lib.hid (O7.out.alloc (.cells #[.int .i64 f0, .int .i64 f1, .int .i64 f2, .int .i64 f3, .int .i64 f4, .int .i64 f5] 25))
      have G7' := Lib.hid (grown_trans G7.out (grown_alloc (.cells #[.int .i64 f0, .int .i64 f1, .int .i64 f2, .int .i64 f3, .int .i64 f4, .int .i64 f5] 25) (some p)))
      have C7' := Lib.hid (Cur.alloc C7.out (.cells #[.int .i64 f0, .int .i64 f1, .int .i64 f2, .int .i64 f3, .int .i64 f4, .int .i64 f5] 25))
      have P7' := Lib.hid (P7.out.alloc (.cells #[.int .i64 f0, .int .i64 f1, .int .i64 f2, .int .i64 f3, .int .i64 f4, .int .i64 f5] 25))
      clear hli O7 G7 C7 P7 r0 r1
      go_upto_region 8 with fail
      clear q0 q1 q2 q3 q4 q5 eA
      generalize w7.alloc (.cells #[.int .i64 f0, .int .i64 f1, .int .i64 f2, .int .i64 f3, .int .i64 f4, .int .i64 f5] 25) = w7a at *
      generalize w7.heap.size = tb at *
      have O7 := Lib.hid (show w7a.drew.ownsRow w.heap.size 35 2 _ k (cellsI zs) from own_.own_drewN O7'.out 1)
      have G7 := Lib.hid (grown_dr G7'.out)
      have C7 := Lib.hid (C7'.out.keep ((Below.refl (p + 1) w7a).drew))
      have P7 := Lib.hid P7'.out.drew
      have T7 := Lib.hid T7.out.drew
      clear O7' G7' C7' P7'
      refine wp_region_tail (S := fun w' => Blk 25 #[.int .i64 f0, .int .i64 f1, .int .i64 f2, .int .i64 f3, .int .i64 f4, .int .i64 f5] w' tb) 17 (by kernel_rfl) T7.out (fun hHeld => ?_)
      generalize w7a.drew = w7 at *
      try simp only [Act.put]
      refine wpAnyE_take (i := 0) (v := ?vq0) rfl (by decide +kernel) (fun _ _ _ h => h) (Or.inl ⟨by rfl, ?hq0⟩) (by assumption) ?rq0
      case hq0 =>
        intro wS hSw
        have h2 := hSw.cell 2 _ rfl
        have h3 := hSw.cell 3 _ rfl
        go_simp
        try with_reducible rfl
      try simp only [Act.put]
      refine wpAnyE_take (i := 1) (v := ?vq1) rfl (by decide +kernel) (fun _ _ _ h => h) (Or.inl ⟨by rfl, ?hq1⟩) (by assumption) ?rq1
      case hq1 =>
        intro wS hSw
        have h2 := hSw.cell 2 _ rfl
        have h3 := hSw.cell 3 _ rfl
        go_simp
        try with_reducible rfl
      try simp only [Act.put]
      refine wpAnyE_take (i := 2) (v := ?vq2) rfl (by decide +kernel) (fun _ _ _ h => h) (Or.inl ⟨by rfl, ?hq2⟩) (by assumption) ?rq2
      case hq2 =>
        intro wS hSw
        have h2 := hSw.cell 2 _ rfl
        have h3 := hSw.cell 3 _ rfl
        go_simp
        try with_reducible rfl
      try simp only [Act.put]
      refine wpAnyE_take (i := 8) (v := ?vq8) rfl (by decide +kernel) (fun _ _ _ h => h) (Or.inl ⟨by rfl, ?hq8⟩) (by assumption) ?rq8
      case hq8 =>
        intro wS hSw
        have h2 := hSw.cell 2 _ rfl
        have h3 := hSw.cell 3 _ rfl
        go_simp
        try with_reducible rfl
      try simp only [Act.put]
      refine wpAnyE_take (i := 9) (v := ?vq9) rfl (by decide +kernel) (fun _ _ _ h => h) (Or.inl ⟨by rfl, ?hq9⟩) (by assumption) ?rq9
      case hq9 =>
        intro wS hSw
        have h2 := hSw.cell 2 _ rfl
        have h3 := hSw.cell 3 _ rfl
        go_simp
        try with_reducible rfl
      try simp only [Act.put]
      refine wpAnyE_take (i := 10) (v := ?vq10) rfl (by decide +kernel) (fun _ _ _ h => h) (Or.inl ⟨by rfl, ?hq10⟩) (by assumption) ?rq10
      case hq10 =>
        intro wS hSw
        have h2 := hSw.cell 2 _ rfl
        have h3 := hSw.cell 3 _ rfl
        go_simp
        try with_reducible rfl
      try simp only [Act.put]
      refine wpAnyE_ready (rs := [3]) (by kernel_rfl) (by simp) ?_
      refine AllReadyE.cons (i := 3) rfl (by decide) (fun K hK => ?_) AllReadyE.nil
      go_simp
      refine (pick p _ 40 w7 C7.out (by omega) (by omega) (by omega)).mono ?_
      rintro e w8 ⟨z, rfl, z0, z1, hcN, hgN⟩
      have O8 := Lib.hid (own_kept O7.out hgN (fun g e => by cases e; exact hp))
      have G8 := Lib.hid (grown_trans G7.out hgN)
      have C8 := Lib.hid hcN
      have P8 := Lib.hid (P7.out.grown hgN (Nat.ne_of_gt hpp))
      have T8 := Lib.hid (T7.out.grown hgN (Nat.ne_of_gt htp))
      clear hcN hgN O7 G7 C7 P7 T7
      refine hK.out _ _ T8.out (fun hHeld => ?_)
      clear hK K
      try simp only [Act.put]
      refine wpAnyE_take (i := 4) (v := ?vq4) rfl (by decide +kernel) (fun _ _ _ h => h) (Or.inl ⟨by rfl, ?hq4⟩) (by assumption) ?rq4
      case hq4 =>
        intro wS hSw
        have h2 := hSw.cell 2 _ rfl
        have h3 := hSw.cell 3 _ rfl
        go_simp
        try with_reducible rfl
      try simp only [Act.put]
      refine wpAnyE_take (i := 5) (v := ?vq5) rfl (by decide +kernel) (fun _ _ _ h => h) (Or.inl ⟨by rfl, ?hq5⟩) (by assumption) ?rq5
      case hq5 =>
        intro wS hSw
        have h2 := hSw.cell 2 _ rfl
        have h3 := hSw.cell 3 _ rfl
        go_simp
        try with_reducible rfl
      try simp only [Act.put]
      refine wpAnyE_ready (rs := [6]) (by kernel_rfl) (by simp) ?_
      refine AllReadyE.cons (i := 6) rfl (by decide) (fun K hK => ?_) AllReadyE.nil
      go_simp
      refine (least14_least _ _ w8).mono ?_
      rintro e wl ⟨⟨la, rfl⟩, hwl⟩
      obtain rfl : w8 = wl := hwl.symm
      refine hK.out _ _ T8.out (fun hHeld => ?_)
      clear hK K
      try simp only [Act.put]
      refine wpAnyE_ready (rs := [7]) (by kernel_rfl) (by simp) ?_
      refine AllReadyE.cons (i := 7) rfl (by decide) (fun K hK => ?_) AllReadyE.nil
      go_simp
      refine (least14_most _ _ w8).mono ?_
      rintro e wl ⟨⟨ma, rfl⟩, hwl⟩
      obtain rfl : w8 = wl := hwl.symm
      refine hK.out _ _ T8.out (fun hHeld => ?_)
      clear hK K
      try simp only [Act.put]
      refine wpAnyE_ready (rs := [11]) (by kernel_rfl) (by simp) ?_
      refine AllReadyE.cons (i := 11) rfl (by decide) (fun K hK => ?_) AllReadyE.nil
      go_simp
      refine (pick p _ 40 w8 C8.out (by omega) (by omega) (by omega)).mono ?_
      rintro e w9 ⟨u, rfl, u0, u1, hcN, hgN⟩
      have O9 := Lib.hid (own_kept O8.out hgN (fun g e => by cases e; exact hp))
      have G9 := Lib.hid (grown_trans G8.out hgN)
      have C9 := Lib.hid hcN
      have P9 := Lib.hid (P8.out.grown hgN (Nat.ne_of_gt hpp))
      have T9 := Lib.hid (T8.out.grown hgN (Nat.ne_of_gt htp))
      clear hcN hgN O8 G8 C8 P8 T8
      refine hK.out _ _ T9.out (fun hHeld => ?_)
      clear hK K
      try simp only [Act.put]
      refine wpAnyE_take (i := 12) (v := ?vq12) rfl (by decide +kernel) (fun _ _ _ h => h) (Or.inl ⟨by rfl, ?hq12⟩) (by assumption) ?rq12
      case hq12 =>
        intro wS hSw
        have h2 := hSw.cell 2 _ rfl
        have h3 := hSw.cell 3 _ rfl
        go_simp
        try with_reducible rfl
      try simp only [Act.put]
      refine wpAnyE_take (i := 13) (v := ?vq13) rfl (by decide +kernel) (fun _ _ _ h => h) (Or.inl ⟨by rfl, ?hq13⟩) (by assumption) ?rq13
      case hq13 =>
        intro wS hSw
        have h2 := hSw.cell 2 _ rfl
        have h3 := hSw.cell 3 _ rfl
        go_simp
        try with_reducible rfl
      try simp only [Act.put]
      refine wpAnyE_ready (rs := [14]) (by kernel_rfl) (by simp) ?_
      refine AllReadyE.cons (i := 14) rfl (by decide) (fun K hK => ?_) AllReadyE.nil
      go_simp
      refine (least14_least _ _ w9).mono ?_
      rintro e wl ⟨⟨lb, rfl⟩, hwl⟩
      obtain rfl : w9 = wl := hwl.symm
      refine hK.out _ _ T9.out (fun hHeld => ?_)
      clear hK K
      try simp only [Act.put]
      refine wpAnyE_ready (rs := [15]) (by kernel_rfl) (by simp) ?_
      refine AllReadyE.cons (i := 15) rfl (by decide) (fun K hK => ?_) AllReadyE.nil
      go_simp
      refine (least14_most _ _ w9).mono ?_
      rintro e wl ⟨⟨mb, rfl⟩, hwl⟩
      obtain rfl : w9 = wl := hwl.symm
      refine hK.out _ _ T9.out (fun hHeld => ?_)
      clear hK K
      try simp only [Act.put]
      refine wpAnyE_take (i := 16) (v := ?vq16) rfl (by decide +kernel) (fun _ _ _ h => h) (Or.inl ⟨by rfl, ?hq16⟩) (by assumption) ?rq16
      case hq16 =>
        intro wS hSw
        have h2 := hSw.cell 2 _ rfl
        have h3 := hSw.cell 3 _ rfl
        go_simp
        try with_reducible rfl
      try simp only [Act.put]
      have s0 : w9.cell? ⟨pb, 0, none⟩ = some (.int .i64 x) := P9.out.cell 0 _ rfl
      have sf0 := P9.out.frozen 0
      have s1 : w9.cell? ⟨pb, 1, none⟩ = some (.int .i64 y) := P9.out.cell 1 _ rfl
      have sf1 := P9.out.frozen 1
      refine wpAnyE_ready (rs := [17]) (by kernel_rfl) (by simp) ?_
      refine AllReadyE.last (i := 17) rfl rfl (fun K hK => ?_)
      go_simp
      refine hK.out _ _ ?_
      clear hK K s0 s1 sf0 sf1
      try simp only [Act.put]
      refine wpAnyE_done (by kernel_rfl) ?_ _
      try simp only [List.getElem_toArray, List.getElem_cons_succ, List.getElem_cons_zero, List.setIfInBounds_toArray, List.set_cons_succ, List.set_cons_zero]
      have OA := Lib.hid (own_kept_at (own_kept_at O9.out (lst.grown_set (lst.grown_refl w9 (some pb)) 0 (.int .i64 ma)) HPB.out) (lst.grown_set (lst.grown_refl _ (some pb)) 1 (.int .i64 mb)) HPB.out)
      have CA := Lib.hid (Cur.set (Cur.set C9.out hpp (i := 0) (v := .int .i64 ma)) hpp (i := 1) (v := .int .i64 mb))
      have GA := Lib.hid (grown_put (grown_put G9.out hwp (i := 0) (v := .int .i64 ma)) hwp (i := 1) (v := .int .i64 mb))
      have PA := Lib.hid (show Blk 35 #[.int .i64 ma, .int .i64 mb] _ pb from (P9.out.set 0 (.int .i64 ma)).set 1 (.int .i64 mb))
      clear O9 C9 G9 P9 T9
      generalize (w9.setCell ⟨pb, 0, none⟩ (.int .i64 ma)).setCell ⟨pb, 1, none⟩ (.int .i64 mb) = wA at *
      have HSZ := Lib.hid GA.out.size
      have b0 : wA.cell? ⟨pb, 0, none⟩ = some (.int .i64 ma) := PA.out.cell 0 _ rfl
      have b1 : wA.cell? ⟨pb, 1, none⟩ = some (.int .i64 mb) := PA.out.cell 1 _ rfl
      go_wp2_with (at_builtin; refine wpList_append_own _ rfl (.tmp 51) (.tmp 53) 46 rfl w.heap.size 35 i0 (.agg #[.int .i64 0, .int .i64 0]) 2 16 Tryz.underlying46 hi hz0 hz1 hz2 rfl (by decide) _ k (cellsI zs) rfl (OA.out.alloc _) ⟨wA.heap.size, 0, none⟩ 1 1 [.int .i64 ma, .int .i64 mb] rfl rfl (cells_new _ _ #[.int .i64 ma, .int .i64 mb]) (two_cells _ _) (by unfold maxLen; omega) (by omega) (by rw [World.size_alloc]; have := HSZ.out; omega) ?_; intro v' w9 hown' hgrow hnil)
      have C9 := Lib.hid (cur_append CA.out OA.out hp HSZ.out hgrow)
      have G9 := Lib.hid (grown_append GA.out OA.out (Nat.le_refl _) hgrow)
      have O9 := Lib.hid (own_grow2 hown')
      clear hown' hgrow hnil OA CA GA HSZ
      go_wp2_with fail
      go_roundw
      case rel => exact ⟨t - 1, k + 1, _, by omega, (by show Value.int .i64 _ = Value.int .i64 _; congr 1; omega), O9.out, C9.out.more (by omega), G9.out⟩
      case measure => simp [intOf]; omega
    · obtain rfl : t = 0 := by omega
      go_wp2_with fail
      refine (pick p _ 24 wr C3.out (by omega) (by omega) (by omega)).mono ?_
      rintro e w4 ⟨i, rfl, i0', i1', hcN, hgN⟩
      have O4 := Lib.hid (own_kept O3.out hgN (fun g e => by cases e; exact hp))
      have C4 := Lib.hid hcN
      have G4 := Lib.hid (grown_trans G3.out hgN)
      clear hcN hgN O3 C3 G3
      by_cases h0 : i = 0
      · subst h0
        go_wp2_with fail
        refine (drawp7.anyPlace p _ w4 C4.out (by omega)).mono ?_
        rintro e w5 ⟨x, y, rfl, -, hcN, hgN⟩
        have O5 := Lib.hid (own_kept O4.out hgN (fun g e => by cases e; exact hp))
        have C5 := Lib.hid hcN
        have G5 := Lib.hid (grown_trans G4.out hgN)
        have HSZ := Lib.hid G5.out.size
        clear hcN hgN O4 C4 G4
        go_wp2_with (at_builtin; refine wpList_append_own _ rfl (.tmp 59) (.tmp 62) 46 rfl w.heap.size 35 i0 (.agg #[.int .i64 0, .int .i64 0]) 2 16 Tryz.underlying46 hi hz0 hz1 hz2 rfl (by decide) _ k (cellsI zs) rfl (O5.out.alloc _) ⟨w5.heap.size, 0, none⟩ 1 1 [.int .i64 x, .int .i64 y] rfl rfl (cells_new _ _ #[.int .i64 x, .int .i64 y]) (two_cells _ _) (by unfold maxLen; omega) (by omega) (by rw [World.size_alloc]; have := HSZ.out; omega) ?_; intro v' w9 hown' hgrow hnil)
        have C9 := Lib.hid (cur_append C5.out O5.out hp HSZ.out hgrow)
        have G9 := Lib.hid (grown_append G5.out O5.out (Nat.le_refl _) hgrow)
        have O9 := Lib.hid (own_grow2 hown')
        clear hown' hgrow hnil O5 C5 G5 HSZ
        go_wp2_with fail
        go_ret
        exact ⟨_, k + 1, _, rfl, O9.out, by omega, C9.out.more (by omega), G9.out⟩
      have d0 : (i == 0) = false := by simpa using h0
      by_cases h1 : i = 1
      · subst h1
        obtain ⟨A4, c4, rfl⟩ := own_sliceZ O4.out
        go_wp2_with fail
        go_loopw [5, 9] (fun v nv wr => ∃ (l j : Nat) (A' : Option Addr) (c' : Nat) (ys : List Int), l ≤ 6 ∧ j ≤ 7 ∧ v = .slice A' l c' ∧ nv = .int .i64 (j : Int) ∧ wr.ownsRow w.heap.size 35 2 (.slice A' l c') l (cellsI ys) ∧ Cur wr p (m + 300 + 4 * j) ∧ w.grownBy wr (some p)) (fun _ nv _ => 7 - (intOf nv).toNat)
        case atStart => exact ⟨k, 0, A4, c4, zs, by omega, by omega, rfl, rfl, O4.out, C4.out.more (by omega), G4.out⟩
        case round =>
          obtain ⟨l, j, A', c', ys, hl7, hj8, rfl, rfl, ho, hc, hg⟩ := hrel
          clear O4 C4 G4
          go_wp2_with fail
          refine (pick p _ 2 wr hc (by omega) (by omega) (by omega)).mono ?_
          rintro e w7 ⟨r, rfl, r0, r1, hcN, hgN⟩
          have O7 := Lib.hid (own_kept ho hgN (fun g e => by cases e; exact hp))
          have C7 := Lib.hid hcN
          have G7 := Lib.hid (grown_trans hg hgN)
          have HSZ := Lib.hid G7.out.size
          have e5 : IntKind.i64.wrap (5 + r) = 5 + r := IntWalk.i64_in _ (by omega)
          have e6 : IntKind.i64.wrap ((j : Int) + 1) = ((j + 1 : Nat) : Int) := by rw [IntWalk.i64_in _ (by omega)]; omega
          clear ho hc hg hcN hgN
          by_cases hlt3 : (l : Int) < 5 + r
          · by_cases hj : (j : Int) < 7
            · go_wp2_with (at_builtin; refine wpList_append_own _ rfl (.tmp 78) (.tmp 82) 46 rfl w.heap.size 35 i0 (.agg #[.int .i64 0, .int .i64 0]) 2 16 Tryz.underlying46 hi hz0 hz1 hz2 rfl (by decide) _ l (cellsI ys) rfl (O7.out.alloc _) ⟨w7.heap.size, 0, none⟩ 1 1 [.int .i64 ((j : Int)), .int .i64 ((j : Int))] rfl rfl (cells_new _ _ #[.int .i64 ((j : Int)), .int .i64 ((j : Int))]) (two_cells _ _) (by unfold maxLen; omega) (by omega) (by rw [World.size_alloc]; have := HSZ.out; omega) ?_; intro v' w9 hown' hgrow hnil)
              have C9 := Lib.hid (cur_append C7.out O7.out hp HSZ.out hgrow)
              have G9 := Lib.hid (grown_append G7.out O7.out (Nat.le_refl _) hgrow)
              have O9 := Lib.hid (own_grow2 hown')
              clear hown' hgrow hnil O7 C7 G7 HSZ
              obtain ⟨A9, c9, rfl⟩ := own_sliceZ O9.out
              go_wp2_with fail
              go_roundw
              case rel => exact ⟨l + 1, j + 1, A9, c9, _, by omega, by omega, rfl, rfl, O9.out, C9.out.more (by omega), G9.out⟩
              case measure => simp [intOf]; omega
            · go_wp2_with fail
              go_ret
              exact ⟨_, l, ys, rfl, O7.out, by omega, C7.out.more (by omega), G7.out⟩
          · go_wp2_with fail
            go_ret
            exact ⟨_, l, ys, rfl, O7.out, by omega, C7.out.more (by omega), G7.out⟩
      have d1 : (i == 1) = false := by simpa using h1
      go_wp2_with fail
      go_ret
      exact ⟨_, k, zs, rfl, O4.out, by omega, C4.out.more (by omega), G4.out⟩

end Go.Proofs.YtfigjfckelichaaGreatDoor.drawu14

/- spec's draw of pairs, and the arguments of chapter 15's laws. -/
namespace Go.Proofs.YtfigjfckelichaaGreatDoor.drawv14
open Go.RowKit Go.Proofs.YtfigjfckelichaaGreatDoor.cur Go.Proofs.YtfigjfckelichaaGreatDoor.atc Go.Proofs.YtfigjfckelichaaGreatDoor.ats Go.Proofs.YtfigjfckelichaaGreatDoor.ints Go.Proofs.YtfigjfckelichaaGreatDoor.lst Go.Proofs.YtfigjfckelichaaGreatDoor.code_ Go.Proofs.YtfigjfckelichaaGreatDoor.rws Go.Proofs.YtfigjfckelichaaGreatDoor.intc Go.Proofs.YtfigjfckelichaaGreatDoor.draws14 Go.Proofs.YtfigjfckelichaaGreatDoor.drawt14 Go.Proofs.YtfigjfckelichaaGreatDoor.drawu14 Go.Proofs.YtfigjfckelichaaGreatDoor.trk Go.Proofs.YtfigjfckelichaaGreatDoor.asg

theorem cells_set (xs : List Int) (j : Nat) (a : Int) : (cellsI xs).set j (.int .i64 a) = cellsI (xs.set j a) := by unfold cellsI; rw [List.map_set]
theorem cells_app (xs : List Int) (x : Int) : cellsI xs ++ [.int .i64 x] = cellsI (xs ++ [x]) := by unfold cellsI; rw [List.map_append]; rfl
theorem own_len1 {w : World} {B e n : Nat} {v : Value} {xs : List Int} (h : w.ownsRow B e 1 v n (cellsI xs)) : xs.length = n := by have := h.1; unfold cellsI at this; simpa using this
def PairsQ (p m : Nat) (w : World) (e : Ending) (w' : World) : Prop := ∃ v k xs, e = .returned v ∧ w'.ownsRow w.heap.size 3 1 v k (cellsI xs) ∧ k ≤ 16 ∧ Cur w' p m ∧ w.grownBy w' (some p)
set_option maxRecDepth 100000 in
set_option maxHeartbeats 16000000 in
theorem pairs (zs ps : List Int) (g : Int) (A C : Option Addr) (n c m' cq B p m : Nat) (w : World) (h : Cur w p m) (hm : m ≤ 100000) (hn : n ≤ 9) (hm' : m' ≤ 7) (ho1 : w.ownsRow B 25 6 (.slice A n c) n (cellsI zs)) (ho2 : w.ownsRow B 35 2 (.slice C m' cq) m' (cellsI ps)) :
    Calls Tryz.prog 100 #[.pointer (some ⟨p, 0, none⟩), .slice A n c, .slice C m' cq, .int .i64 g] w (PairsQ p (m + 50) w) := by
  have hp := h.lt
  obtain ⟨i0, hi, hz0, hz1, hz2⟩ := info_parts infoI
  have N := Lib.hid (asgx.nearestAssignment zs ps g A C n c m' cq w (by omega) (by omega) (RdZ.of_own ho1 (own_len6 ho1)) (RdZ.of_own ho2 (own_len2 ho2)))
  have C0 := Lib.hid h
  have HLE := Lib.hid (neV_le zs n ps m' g)
  clear h ho1 ho2
  go_enter Tryz.func100, Tryz.ntmps100
  go_wp2_with fail
  refine N.out.mono ?_
  rintro e w1 ⟨v, rfl, ho, hb⟩
  generalize neV zs n ps m' g = xs at *
  generalize akB zs n ps m' g = ok at *
  have hkl := HLE.out
  obtain ⟨k, hk⟩ : ∃ k, k = xs.length := ⟨_, rfl⟩
  rw [← hk] at ho hkl
  have O1 := Lib.hid ho
  have C1 := Lib.hid (Cur.below C0.out hb)
  have G1 := Lib.hid (show w.grownBy w1 (some p) from grown_below hb)
  clear ho hb hk N C0 HLE
  cases ok
  · go_wp2_with fail
    go_loopw [9, 11] (fun v iv wr => ∃ (i k : Nat) (xs : List Int), i ≤ n ∧ k ≤ 6 + i ∧ iv = .int .i64 (i : Int) ∧ wr.ownsRow w.heap.size 3 1 v k (cellsI xs) ∧ Cur wr p m ∧ w.grownBy wr (some p)) (fun _ iv _ => n - (intOf iv).toNat)
    case atStart => exact ⟨0, k, xs, by omega, by omega, rfl, O1.out, C1.out, G1.out⟩
    case round =>
      obtain ⟨i, k, xs, hin, hki, rfl, ho, hc, hg⟩ := hrel
      clear O1 C1 G1 hkl
      have O2 := Lib.hid ho
      have C2 := Lib.hid hc
      have G2 := Lib.hid hg
      clear ho hc hg
      by_cases hlt : i < n
      · have hlt2 : (i : Int) < (n : Int) := by omega
        have e1 : IntKind.i64.wrap ((i : Int) + 1) = ((i + 1 : Nat) : Int) := by rw [IntWalk.i64_in _ (by omega)]; omega
        have HSZ := Lib.hid G2.out.size
        go_wp2_with (at_builtin; refine wpList_append_any rfl (.tmp 27) (.tmp 28) 50 rfl w.heap.size 3 i0 (.int .i64 0) 1 8 Tryz.underlying50 hi hz0 hz1 hz2 rfl (by decide) _ k (cellsI xs) rfl (O2.out.alloc _) ⟨wr.heap.size, 0, none⟩ 1 1 [.int .i64 (-1)] rfl rfl (cell_one_new _ _ _) (own_.one_cell _ rfl) (by unfold maxLen; omega) (by omega) (by rw [World.size_alloc]; have := HSZ.out; omega) ?_; intro v' w9 hown' hgrow hnil)
        have C9 := Lib.hid (cur_append C2.out O2.out hp HSZ.out hgrow)
        have G9 := Lib.hid (grown_append G2.out O2.out (Nat.le_refl _) hgrow)
        rw [cells_app] at hown'
        have O9 := Lib.hid hown'
        clear hown' hgrow hnil O2 C2 G2 HSZ
        go_wp2_with fail
        go_roundw
        case rel => exact ⟨i + 1, k + 1, _, by omega, by omega, rfl, O9.out, C9.out, G9.out⟩
        case measure => simp [intOf]; omega
      · have hlt2 : ¬ (i : Int) < (n : Int) := by omega
        obtain ⟨Ao, co, rfl⟩ := own_sliceZ O2.out
        rcases Nat.eq_zero_or_pos k with hk0 | hk0
        · subst hk0
          have n1 : ((0 : Nat) : Int) = 0 := rfl
          go_wp2_with fail
          refine (one p _ 16 wr C2.out (by omega) (by omega) (by omega)).mono ?_
          rintro e w6 ⟨b6, rfl, hcN, hgN⟩
          have O6 := Lib.hid (own_kept O2.out hgN (fun g e => by cases e; exact hp))
          have G6 := Lib.hid (grown_trans G2.out hgN)
          have C6 := Lib.hid hcN
          have HSZ := Lib.hid G6.out.size
          clear hcN hgN O2 C2 G2
          cases b6
          · go_wp2_with fail
            go_ret
            exact ⟨_, 0, xs, rfl, O6.out, by omega, C6.out.more (by omega), G6.out⟩
          · go_wp2_with (at_builtin; refine wpList_append_any rfl (.tmp 48) (.tmp 49) 50 rfl w.heap.size 3 i0 (.int .i64 0) 1 8 Tryz.underlying50 hi hz0 hz1 hz2 rfl (by decide) _ 0 (cellsI xs) rfl (O6.out.alloc _) ⟨w6.heap.size, 0, none⟩ 1 1 [.int .i64 (-1)] rfl rfl (cell_one_new _ _ _) (own_.one_cell _ rfl) (by unfold maxLen; omega) (by omega) (by rw [World.size_alloc]; have := HSZ.out; omega) ?_; intro v' w9 hown' hgrow hnil)
            have C9 := Lib.hid (cur_append C6.out O6.out hp HSZ.out hgrow)
            have G9 := Lib.hid (grown_append G6.out O6.out (Nat.le_refl _) hgrow)
            rw [cells_app] at hown'
            have O9 := Lib.hid hown'
            clear hown' hgrow hnil O6 C6 G6 HSZ
            go_wp2_with fail
            go_ret
            exact ⟨_, 0 + 1, _, rfl, O9.out, by omega, C9.out.more (by omega), G9.out⟩
        have hk1 : (0 : Int) < (k : Int) := by omega
        go_wp2_with fail
        refine (one p _ 3 wr C2.out (by omega) (by omega) (by omega)).mono ?_
        rintro e w3 ⟨b3, rfl, hcN, hgN⟩
        have O3 := Lib.hid (own_kept O2.out hgN (fun g e => by cases e; exact hp))
        have G3 := Lib.hid (grown_trans G2.out hgN)
        have C3 := Lib.hid hcN
        clear hcN hgN O2 C2 G2
        cases b3
        · go_wp2_with fail
          refine (one p _ 16 w3 C3.out (by omega) (by omega) (by omega)).mono ?_
          rintro e w6 ⟨b6, rfl, hcN, hgN⟩
          have O6 := Lib.hid (own_kept O3.out hgN (fun g e => by cases e; exact hp))
          have G6 := Lib.hid (grown_trans G3.out hgN)
          have C6 := Lib.hid hcN
          have HSZ := Lib.hid G6.out.size
          clear hcN hgN O3 C3 G3
          cases b6
          · go_wp2_with fail
            go_ret
            exact ⟨_, k, xs, rfl, O6.out, by omega, C6.out.more (by omega), G6.out⟩
          · go_wp2_with (at_builtin; refine wpList_append_any rfl (.tmp 48) (.tmp 49) 50 rfl w.heap.size 3 i0 (.int .i64 0) 1 8 Tryz.underlying50 hi hz0 hz1 hz2 rfl (by decide) _ k (cellsI xs) rfl (O6.out.alloc _) ⟨w6.heap.size, 0, none⟩ 1 1 [.int .i64 (-1)] rfl rfl (cell_one_new _ _ _) (own_.one_cell _ rfl) (by unfold maxLen; omega) (by omega) (by rw [World.size_alloc]; have := HSZ.out; omega) ?_; intro v' w9 hown' hgrow hnil)
            have C9 := Lib.hid (cur_append C6.out O6.out hp HSZ.out hgrow)
            have G9 := Lib.hid (grown_append G6.out O6.out (Nat.le_refl _) hgrow)
            rw [cells_app] at hown'
            have O9 := Lib.hid hown'
            clear hown' hgrow hnil O6 C6 G6 HSZ
            go_wp2_with fail
            go_ret
            exact ⟨_, k + 1, _, rfl, O9.out, by omega, C9.out.more (by omega), G9.out⟩
        · go_wp2_with fail
          refine (pick p _ (k : Int) w3 C3.out (by omega) (by omega) (by omega)).mono ?_
          rintro e w4 ⟨r, rfl, r0, r1, hcN, hgN⟩
          have O4 := Lib.hid (own_kept O3.out hgN (fun g e => by cases e; exact hp))
          have G4 := Lib.hid (grown_trans G3.out hgN)
          have C4 := Lib.hid hcN
          clear hcN hgN O3 C3 G3
          obtain ⟨j, rfl⟩ := Int.eq_ofNat_of_zero_le r0
          have hjk : j < k := by omega
          have hjki : (j : Int) < (k : Int) := by omega
          have hj0 : (0 : Int) ≤ (j : Int) := r0
          go_wp2_with fail
          refine (pick p _ 7 w4 C4.out (by omega) (by omega) (by omega)).mono ?_
          rintro e w5 ⟨s, rfl, s0, s1, hcN, hgN⟩
          have ho := own_kept O4.out hgN (fun g e => by cases e; exact hp)
          obtain ⟨go, eA, hkc⟩ := own_pos ho (show 0 < k by omega)
          subst eA
          have hgo := own_.row_ge ho go rfl
          have hgp : p < go := by omega
          have G5 := Lib.hid (grown_put (grown_trans G4.out hgN) hgo (i := j) (v := .int .i64 (s - 1)))
          have C5 := Lib.hid (Cur.set hcN hgp (i := j) (v := .int .i64 (s - 1)))
          have st := (ho.stored j (.int .i64 (s - 1))).1
          rw [cells_set] at st
          have O5 := Lib.hid st
          have e5 : IntKind.i64.wrap (s - 1) = s - 1 := IntWalk.i64_in _ (by omega)
          obtain ⟨uu, huu⟩ : ∃ u, (cellsI xs)[j]? = some u := ⟨_, List.getElem?_eq_getElem (by unfold cellsI; rw [List.length_map, own_len1 ho]; exact hjk)⟩
          have cl := ho.cellAt j (by omega)
          rw [huu] at cl
          have fz := ho.frozenAt j
          clear hcN hgN O4 C4 G4 st ho huu r0 r1
          go_upto_region 9 with fail
          clear cl fz
          generalize w5.setCell ⟨go, j, none⟩ (.int .i64 (s - 1)) = w5' at *
          go_wp2_with fail
          refine (one p _ 16 w5' C5.out (by omega) (by omega) (by omega)).mono ?_
          rintro e w6 ⟨b6, rfl, hcN, hgN⟩
          have O6 := Lib.hid (own_kept O5.out hgN (fun g e => by cases e; exact hp))
          have G6 := Lib.hid (grown_trans G5.out hgN)
          have C6 := Lib.hid hcN
          have HSZ := Lib.hid G6.out.size
          clear hcN hgN O5 C5 G5
          cases b6
          · go_wp2_with fail
            go_ret
            exact ⟨_, k, _, rfl, O6.out, by omega, C6.out.more (by omega), G6.out⟩
          · go_wp2_with (at_builtin; refine wpList_append_any rfl (.tmp 48) (.tmp 49) 50 rfl w.heap.size 3 i0 (.int .i64 0) 1 8 Tryz.underlying50 hi hz0 hz1 hz2 rfl (by decide) _ k (cellsI _) rfl (O6.out.alloc _) ⟨w6.heap.size, 0, none⟩ 1 1 [.int .i64 (-1)] rfl rfl (cell_one_new _ _ _) (own_.one_cell _ rfl) (by unfold maxLen; omega) (by omega) (by rw [World.size_alloc]; have := HSZ.out; omega) ?_; intro v' w9 hown' hgrow hnil)
            have C9 := Lib.hid (cur_append C6.out O6.out hp HSZ.out hgrow)
            have G9 := Lib.hid (grown_append G6.out O6.out (Nat.le_refl _) hgrow)
            rw [cells_app] at hown'
            have O9 := Lib.hid hown'
            clear hown' hgrow hnil O6 C6 G6 HSZ
            go_wp2_with fail
            go_ret
            exact ⟨_, k + 1, _, rfl, O9.out, by omega, C9.out.more (by omega), G9.out⟩
  · obtain ⟨Ao, co, rfl⟩ := own_sliceZ O1.out
    rcases Nat.eq_zero_or_pos k with hk0 | hk0
    · subst hk0
      have n1 : ((0 : Nat) : Int) = 0 := rfl
      go_wp2_with fail
      refine (one p _ 16 w1 C1.out (by omega) (by omega) (by omega)).mono ?_
      rintro e w6 ⟨b6, rfl, hcN, hgN⟩
      have O6 := Lib.hid (own_kept O1.out hgN (fun g e => by cases e; exact hp))
      have G6 := Lib.hid (grown_trans G1.out hgN)
      have C6 := Lib.hid hcN
      have HSZ := Lib.hid G6.out.size
      clear hcN hgN O1 C1 G1
      cases b6
      · go_wp2_with fail
        go_ret
        exact ⟨_, 0, xs, rfl, O6.out, by omega, C6.out.more (by omega), G6.out⟩
      · go_wp2_with (at_builtin; refine wpList_append_any rfl (.tmp 48) (.tmp 49) 50 rfl w.heap.size 3 i0 (.int .i64 0) 1 8 Tryz.underlying50 hi hz0 hz1 hz2 rfl (by decide) _ 0 (cellsI xs) rfl (O6.out.alloc _) ⟨w6.heap.size, 0, none⟩ 1 1 [.int .i64 (-1)] rfl rfl (cell_one_new _ _ _) (own_.one_cell _ rfl) (by unfold maxLen; omega) (by omega) (by rw [World.size_alloc]; have := HSZ.out; omega) ?_; intro v' w9 hown' hgrow hnil)
        have C9 := Lib.hid (cur_append C6.out O6.out hp HSZ.out hgrow)
        have G9 := Lib.hid (grown_append G6.out O6.out (Nat.le_refl _) hgrow)
        rw [cells_app] at hown'
        have O9 := Lib.hid hown'
        clear hown' hgrow hnil O6 C6 G6 HSZ
        go_wp2_with fail
        go_ret
        exact ⟨_, 0 + 1, _, rfl, O9.out, by omega, C9.out.more (by omega), G9.out⟩
    have hk1 : (0 : Int) < (k : Int) := by omega
    go_wp2_with fail
    refine (one p _ 3 w1 C1.out (by omega) (by omega) (by omega)).mono ?_
    rintro e w3 ⟨b3, rfl, hcN, hgN⟩
    have O3 := Lib.hid (own_kept O1.out hgN (fun g e => by cases e; exact hp))
    have G3 := Lib.hid (grown_trans G1.out hgN)
    have C3 := Lib.hid hcN
    clear hcN hgN O1 C1 G1
    cases b3
    · go_wp2_with fail
      refine (one p _ 16 w3 C3.out (by omega) (by omega) (by omega)).mono ?_
      rintro e w6 ⟨b6, rfl, hcN, hgN⟩
      have O6 := Lib.hid (own_kept O3.out hgN (fun g e => by cases e; exact hp))
      have G6 := Lib.hid (grown_trans G3.out hgN)
      have C6 := Lib.hid hcN
      have HSZ := Lib.hid G6.out.size
      clear hcN hgN O3 C3 G3
      cases b6
      · go_wp2_with fail
        go_ret
        exact ⟨_, k, xs, rfl, O6.out, by omega, C6.out.more (by omega), G6.out⟩
      · go_wp2_with (at_builtin; refine wpList_append_any rfl (.tmp 48) (.tmp 49) 50 rfl w.heap.size 3 i0 (.int .i64 0) 1 8 Tryz.underlying50 hi hz0 hz1 hz2 rfl (by decide) _ k (cellsI xs) rfl (O6.out.alloc _) ⟨w6.heap.size, 0, none⟩ 1 1 [.int .i64 (-1)] rfl rfl (cell_one_new _ _ _) (own_.one_cell _ rfl) (by unfold maxLen; omega) (by omega) (by rw [World.size_alloc]; have := HSZ.out; omega) ?_; intro v' w9 hown' hgrow hnil)
        have C9 := Lib.hid (cur_append C6.out O6.out hp HSZ.out hgrow)
        have G9 := Lib.hid (grown_append G6.out O6.out (Nat.le_refl _) hgrow)
        rw [cells_app] at hown'
        have O9 := Lib.hid hown'
        clear hown' hgrow hnil O6 C6 G6 HSZ
        go_wp2_with fail
        go_ret
        exact ⟨_, k + 1, _, rfl, O9.out, by omega, C9.out.more (by omega), G9.out⟩
    · go_wp2_with fail
      refine (pick p _ (k : Int) w3 C3.out (by omega) (by omega) (by omega)).mono ?_
      rintro e w4 ⟨r, rfl, r0, r1, hcN, hgN⟩
      have O4 := Lib.hid (own_kept O3.out hgN (fun g e => by cases e; exact hp))
      have G4 := Lib.hid (grown_trans G3.out hgN)
      have C4 := Lib.hid hcN
      clear hcN hgN O3 C3 G3
      obtain ⟨j, rfl⟩ := Int.eq_ofNat_of_zero_le r0
      have hjk : j < k := by omega
      have hjki : (j : Int) < (k : Int) := by omega
      have hj0 : (0 : Int) ≤ (j : Int) := r0
      go_wp2_with fail
      refine (pick p _ 7 w4 C4.out (by omega) (by omega) (by omega)).mono ?_
      rintro e w5 ⟨s, rfl, s0, s1, hcN, hgN⟩
      have ho := own_kept O4.out hgN (fun g e => by cases e; exact hp)
      obtain ⟨go, eA, hkc⟩ := own_pos ho (show 0 < k by omega)
      subst eA
      have hgo := own_.row_ge ho go rfl
      have hgp : p < go := by omega
      have G5 := Lib.hid (grown_put (grown_trans G4.out hgN) hgo (i := j) (v := .int .i64 (s - 1)))
      have C5 := Lib.hid (Cur.set hcN hgp (i := j) (v := .int .i64 (s - 1)))
      have st := (ho.stored j (.int .i64 (s - 1))).1
      rw [cells_set] at st
      have O5 := Lib.hid st
      have e5 : IntKind.i64.wrap (s - 1) = s - 1 := IntWalk.i64_in _ (by omega)
      obtain ⟨uu, huu⟩ : ∃ u, (cellsI xs)[j]? = some u := ⟨_, List.getElem?_eq_getElem (by unfold cellsI; rw [List.length_map, own_len1 ho]; exact hjk)⟩
      have cl := ho.cellAt j (by omega)
      rw [huu] at cl
      have fz := ho.frozenAt j
      clear hcN hgN O4 C4 G4 st ho huu r0 r1
      go_upto_region 9 with fail
      clear cl fz
      generalize w5.setCell ⟨go, j, none⟩ (.int .i64 (s - 1)) = w5' at *
      go_wp2_with fail
      refine (one p _ 16 w5' C5.out (by omega) (by omega) (by omega)).mono ?_
      rintro e w6 ⟨b6, rfl, hcN, hgN⟩
      have O6 := Lib.hid (own_kept O5.out hgN (fun g e => by cases e; exact hp))
      have G6 := Lib.hid (grown_trans G5.out hgN)
      have C6 := Lib.hid hcN
      have HSZ := Lib.hid G6.out.size
      clear hcN hgN O5 C5 G5
      cases b6
      · go_wp2_with fail
        go_ret
        exact ⟨_, k, _, rfl, O6.out, by omega, C6.out.more (by omega), G6.out⟩
      · go_wp2_with (at_builtin; refine wpList_append_any rfl (.tmp 48) (.tmp 49) 50 rfl w.heap.size 3 i0 (.int .i64 0) 1 8 Tryz.underlying50 hi hz0 hz1 hz2 rfl (by decide) _ k (cellsI _) rfl (O6.out.alloc _) ⟨w6.heap.size, 0, none⟩ 1 1 [.int .i64 (-1)] rfl rfl (cell_one_new _ _ _) (own_.one_cell _ rfl) (by unfold maxLen; omega) (by omega) (by rw [World.size_alloc]; have := HSZ.out; omega) ?_; intro v' w9 hown' hgrow hnil)
        have C9 := Lib.hid (cur_append C6.out O6.out hp HSZ.out hgrow)
        have G9 := Lib.hid (grown_append G6.out O6.out (Nat.le_refl _) hgrow)
        rw [cells_app] at hown'
        have O9 := Lib.hid hown'
        clear hown' hgrow hnil O6 C6 G6 HSZ
        go_wp2_with fail
        go_ret
        exact ⟨_, k + 1, _, rfl, O9.out, by omega, C9.out.more (by omega), G9.out⟩


theorem results_tmp4 {fn : Func} {t u v x : Tmp} (h : fn.results = #[.tmp t, .tmp u, .tmp v, .tmp x]) (tmps : Array Value) (P : Program) (w : World) :
    (results fn tmps).run P w = .ok (.tuple #[tmps.getD t undef, tmps.getD u undef, tmps.getD v undef, tmps.getD x undef]) w := by
  simp [results, h]
def AsgQ (w : World) (e : Ending) (w' : World) : Prop := ∃ v k zs u m ps g s j xs, e = .returned (.tuple #[v, u, .int .i64 g, s]) ∧ w'.ownsRow w.heap.size 25 6 v k (cellsI zs) ∧ k ≤ 9 ∧ w'.ownsRow w.heap.size 35 2 u m (cellsI ps) ∧ m ≤ 7 ∧ w'.ownsRow w.heap.size 3 1 s j (cellsI xs) ∧ j ≤ 16 ∧ Below w.heap.size w w'
set_option maxRecDepth 100000 in
set_option maxHeartbeats 4000000 in
theorem isAssignment (A : Option Addr) (n c : Nat) (w : World) (hn : n ≤ 65536) (h : Bytes w w.heap.size A n) :
    Calls Tryz.prog 65 #[.slice A n c] w (AsgQ w) := by
  have HC0 := Lib.hid (new_cur c (by omega) h)
  have HZ1 := Lib.hid (show w.heap.size < (w.alloc (.cells #[.slice A n c, .int .i64 0, .int .u64 0] 70)).heap.size by rw [World.size_alloc]; omega)
  have B0 := Lib.hid ((newS 70 #[.slice A n c, .int .i64 0, .int .u64 0] w).1)
  clear h
  go_enter Tryz.func65, Tryz.ntmps65
  go_wp2_with fail
  generalize w.alloc (.cells #[.slice A n c, .int .i64 0, .int .u64 0] 70) = W0 at *
  refine (tracks _ 0 W0 HC0.out (by omega)).mono ?_
  rintro e w1 ⟨v, k, zs, rfl, ho, hk, hc, hg⟩
  obtain ⟨A1, c1, rfl⟩ := own_sliceZ ho
  have L1 := Lib.hid ho
  have C1 := Lib.hid hc
  have B1 := Lib.hid (below_of_grown B0.out hg)
  have S1 := Lib.hid hg.size
  clear ho hc hg HC0 B0
  go_wp2_with fail
  refine (plots zs A1 k c1 W0.heap.size _ _ w1 C1.out (by omega) hk HZ1.out L1.out).mono ?_
  rintro e w2 ⟨v, m, ps, rfl, ho, hm, hc, hg⟩
  obtain ⟨A2, c2, rfl⟩ := own_sliceZ ho
  have L2 := Lib.hid (own_kept L1.out hg (fun g e => by cases e; exact HZ1.out))
  have P2 := Lib.hid (own_.own_base ho S1.out)
  have C2 := Lib.hid hc
  have B2 := Lib.hid (below_of_grown B1.out hg)
  have S2 := Lib.hid (Nat.le_trans S1.out hg.size)
  clear ho hc hg L1 C1 B1 S1
  go_wp2_with fail
  refine (gate _ _ w2 C2.out (by omega)).mono ?_
  rintro e w3 ⟨g, rfl, g0, g1, hc, hg⟩
  have L3 := Lib.hid (own_kept L2.out hg (fun g e => by cases e; exact HZ1.out))
  have P3 := Lib.hid (own_kept P2.out hg (fun g e => by cases e; exact HZ1.out))
  have C3 := Lib.hid hc
  have B3 := Lib.hid (below_of_grown B2.out hg)
  have S3 := Lib.hid (Nat.le_trans S2.out hg.size)
  clear hc hg L2 P2 C2 B2 S2 g0 g1
  go_wp2_with fail
  refine (pairs zs ps g A1 A2 k c1 m c2 W0.heap.size _ _ w3 C3.out (by omega) hk hm L3.out P3.out).mono ?_
  rintro e w4 ⟨v, j, xs, rfl, ho, hj, hc, hg⟩
  obtain ⟨A3, c3, rfl⟩ := own_sliceZ ho
  have hle := Nat.le_of_lt HZ1.out
  have L4 := Lib.hid (own_.own_base (own_kept L3.out hg (fun g e => by cases e; exact HZ1.out)) hle)
  have P4 := Lib.hid (own_.own_base (own_kept P3.out hg (fun g e => by cases e; exact HZ1.out)) hle)
  have X4 := Lib.hid (own_.own_base ho (Nat.le_trans hle S3.out))
  have B4 := Lib.hid (below_of_grown B3.out hg)
  have HR := Lib.hid (show AsgQ w (.returned (.tuple #[.slice A1 k c1, .slice A2 m c2, .int .i64 g, .slice A3 j c3])) w4 from ⟨_, k, zs, _, m, ps, g, _, j, xs, rfl, L4.out, hk, P4.out, hm, X4.out, hj, B4.out⟩)
  clear ho hc hg L3 P3 C3 B3 S3 L4 P4 X4 B4
  go_wp2_with fail
  (try simp only [Exit.inBlock, Exit.then])
  refine bodyPost_ret (results_tmp4 rfl _ _ _) rfl ?_
  exact HR.out
end Go.Proofs.YtfigjfckelichaaGreatDoor.drawv14

namespace Go.Proofs.YtfigjfckelichaaGreatDoor.drawx14
open Go.RowKit Go.Proofs.YtfigjfckelichaaGreatDoor.cur Go.Proofs.YtfigjfckelichaaGreatDoor.atc Go.Proofs.YtfigjfckelichaaGreatDoor.ats Go.Proofs.YtfigjfckelichaaGreatDoor.ints Go.Proofs.YtfigjfckelichaaGreatDoor.lst Go.Proofs.YtfigjfckelichaaGreatDoor.code_ Go.Proofs.YtfigjfckelichaaGreatDoor.rws Go.Proofs.YtfigjfckelichaaGreatDoor.intc Go.Proofs.YtfigjfckelichaaGreatDoor.draws14 Go.Proofs.YtfigjfckelichaaGreatDoor.drawt14 Go.Proofs.YtfigjfckelichaaGreatDoor.drawu14 Go.Proofs.YtfigjfckelichaaGreatDoor.drawv14 Go.Proofs.YtfigjfckelichaaGreatDoor.trk Go.Proofs.YtfigjfckelichaaGreatDoor.asg

def UpdQ (w : World) (e : Ending) (w' : World) : Prop := ∃ v k zs u m ps g, e = .returned (.tuple #[v, u, .int .i64 g]) ∧ w'.ownsRow w.heap.size 25 6 v k (cellsI zs) ∧ k ≤ 9 ∧ w'.ownsRow w.heap.size 35 2 u m (cellsI ps) ∧ m ≤ 7 ∧ Below w.heap.size w w'
def TrackPlaceQ (w : World) (e : Ending) (w' : World) : Prop := ∃ a b c d h l x y : Int, e = .returned (.tuple #[.agg #[.int .i64 a, .int .i64 b, .int .i64 c, .int .i64 d, .int .i64 h, .int .i64 l], .agg #[.int .i64 x, .int .i64 y]]) ∧ Below w.heap.size w w'
set_option maxRecDepth 100000 in
set_option maxHeartbeats 4000000 in
theorem bestAssignment (A : Option Addr) (n c : Nat) (w : World) (hn : n ≤ 65536) (h : Bytes w w.heap.size A n) :
    Calls Tryz.prog 55 #[.slice A n c] w (UpdQ w) := by
  have HC0 := Lib.hid (new_cur c (by omega) h)
  have HZ1 := Lib.hid (show w.heap.size < (w.alloc (.cells #[.slice A n c, .int .i64 0, .int .u64 0] 70)).heap.size by rw [World.size_alloc]; omega)
  have B0 := Lib.hid ((newS 70 #[.slice A n c, .int .i64 0, .int .u64 0] w).1)
  clear h
  go_enter Tryz.func55, Tryz.ntmps55
  go_wp2_with fail
  generalize w.alloc (.cells #[.slice A n c, .int .i64 0, .int .u64 0] 70) = W0 at *
  refine (tracks _ 0 W0 HC0.out (by omega)).mono ?_
  rintro e w1 ⟨v, k, zs, rfl, ho, hk, hc, hg⟩
  obtain ⟨A1, c1, rfl⟩ := own_sliceZ ho
  have L1 := Lib.hid ho
  have C1 := Lib.hid hc
  have B1 := Lib.hid (below_of_grown B0.out hg)
  have S1 := Lib.hid hg.size
  clear ho hc hg HC0 B0
  go_wp2_with fail
  refine (plots zs A1 k c1 W0.heap.size _ _ w1 C1.out (by omega) hk HZ1.out L1.out).mono ?_
  rintro e w2 ⟨v, m, ps, rfl, ho, hm, hc, hg⟩
  obtain ⟨A2, c2, rfl⟩ := own_sliceZ ho
  have L2 := Lib.hid (own_kept L1.out hg (fun g e => by cases e; exact HZ1.out))
  have P2 := Lib.hid (own_.own_base ho S1.out)
  have C2 := Lib.hid hc
  have B2 := Lib.hid (below_of_grown B1.out hg)
  have S2 := Lib.hid (Nat.le_trans S1.out hg.size)
  clear ho hc hg L1 C1 B1 S1
  go_wp2_with fail
  refine (gate _ _ w2 C2.out (by omega)).mono ?_
  rintro e w3 ⟨g, rfl, g0, g1, hc, hg⟩
  have L3 := Lib.hid (own_kept L2.out hg (fun g e => by cases e; exact HZ1.out))
  have P3 := Lib.hid (own_kept P2.out hg (fun g e => by cases e; exact HZ1.out))
  have C3 := Lib.hid hc
  have B3 := Lib.hid (below_of_grown B2.out hg)
  have S3 := Lib.hid (Nat.le_trans S2.out hg.size)
  clear hc hg L2 P2 C2 B2 S2 g0 g1
  have hle := Nat.le_of_lt HZ1.out
  have L4 := Lib.hid (own_.own_base L3.out hle)
  have P4 := Lib.hid (own_.own_base P3.out hle)
  have HR := Lib.hid (show UpdQ w (.returned (.tuple #[.slice A1 k c1, .slice A2 m c2, .int .i64 g])) w3 from ⟨_, k, zs, _, m, ps, g, rfl, L4.out, hk, P4.out, hm, B3.out⟩)
  clear L3 P3 C3 B3 S3 L4 P4
  go_wp2_with fail
  go_ret3
  exact HR.out
theorem updateTracks (A : Option Addr) (n c : Nat) (w : World) (hn : n ≤ 65536) (h : Bytes w w.heap.size A n) :
    Calls Tryz.prog 20 #[.slice A n c] w (UpdQ w) := by
  have D := Lib.hid (bestAssignment A n c w hn h)
  clear h
  go_enter Tryz.func20, Tryz.ntmps20
  go_wp2_with fail
  refine D.out.mono ?_
  rintro e w1 ⟨v, k, zs, u, m, ps, g, rfl, h1, h2, h3, h4, h5⟩
  go_wp2_with fail
  go_ret3
  exact ⟨v, k, zs, u, m, ps, g, rfl, h1, h2, h3, h4, h5⟩
theorem swappedPairs (A : Option Addr) (n c : Nat) (w : World) (hn : n ≤ 65536) (h : Bytes w w.heap.size A n) :
    Calls Tryz.prog 24 #[.slice A n c] w (AsgQ w) := by
  have D := Lib.hid (isAssignment A n c w hn h)
  clear h
  go_enter Tryz.func24, Tryz.ntmps24
  go_wp2_with fail
  refine D.out.mono ?_
  rintro e w1 ⟨v, k, zs, u, m, ps, g, s, j, xs, rfl, h1, h2, h3, h4, h5, h6, h7⟩
  go_wp2_with fail
  (try simp only [Exit.inBlock, Exit.then])
  refine bodyPost_ret (results_tmp4 rfl _ _ _) rfl ?_
  exact ⟨v, k, zs, u, m, ps, g, s, j, xs, rfl, h1, h2, h3, h4, h5, h6, h7⟩

theorem bytes_al {w : World} {A : Option Addr} {n : Nat} (o : Obj) (h : Bytes w w.heap.size A n) : Bytes (w.alloc o) (w.alloc o).heap.size A n := by
  intro h0
  obtain ⟨b, o', e, hb, hc⟩ := h h0
  exact ⟨b, o', e, by rw [World.size_alloc]; omega, fun j hj => by
    obtain ⟨x, hx⟩ := hc j hj
    exact ⟨x, (World.cell?_alloc_lt w _ ⟨b, o' + j, none⟩ hb).trans hx.1, hx.2⟩⟩
theorem at_grown {T : TypeId} {cs : Array Value} {w W W' : World} {b p : Nat} (h : AtS T cs w W b) (hg : W.grownBy W' (some p)) (hne : b ≠ p) (hp : w.heap.size ≤ p) : AtS T cs w W' b :=
  ⟨h.1.grown hg h.1.size (fun g e => by injection e with e; omega), h.2.1, Nat.lt_of_lt_of_le h.2.2.1 hg.size, (hg.block b h.2.2.1 (fun e => hne (by injection e))).trans h.2.2.2⟩
theorem results_cells2 {fn : Func} {p q : Tmp} {ty ty' : TypeId} (h : fn.results = #[.cell p ty, .cell q ty']) (tmps : Array Value) (P : Program) (w : World) :
    (results fn tmps).run P w =
      ((asAddr (tmps.getD p undef)).run P w).andThen fun a w₁ => ((loadVar ty a).run P w₁).andThen fun v w₂ => ((asAddr (tmps.getD q undef)).run P w₂).andThen fun b w₃ => ((loadVar ty' b).run P w₃).andThen fun u w₄ => .ok (.tuple #[v, u]) w₄ := by
  simp only [results, h]
  simp [Sem.run_bind, Result.andThen]
set_option maxRecDepth 100000 in
set_option maxHeartbeats 4000000 in
theorem plotDistance (A : Option Addr) (n c0 : Nat) (w : World) (hn : n ≤ 65536) (h : Bytes w w.heap.size A n) :
    Calls Tryz.prog 27 #[.slice A n c0] w (TrackPlaceQ w) := by
  have R0 := Lib.hid (((newS 25 #[.int .i64 0, .int .i64 0, .int .i64 0, .int .i64 0, .int .i64 0, .int .i64 0] w).alloc (.cells #[.int .i64 0, .int .i64 0] 35)).alloc (.cells #[.slice A n c0, .int .i64 0, .int .u64 0] 70))
  have Q0 := Lib.hid (((newS 25 #[.int .i64 0, .int .i64 0, .int .i64 0, .int .i64 0, .int .i64 0, .int .i64 0] w).next 35 #[.int .i64 0, .int .i64 0]).alloc (.cells #[.slice A n c0, .int .i64 0, .int .u64 0] 70))
  rw [World.size_alloc] at Q0
  have hc := new_cur c0 (by omega) (bytes_al (.cells #[.int .i64 0, .int .i64 0] 35) (bytes_al (.cells #[.int .i64 0, .int .i64 0, .int .i64 0, .int .i64 0, .int .i64 0, .int .i64 0] 25) h))
  rw [World.size_alloc, World.size_alloc] at hc
  have HC0 := Lib.hid hc
  clear h hc
  go_enter Tryz.func27, Tryz.ntmps27
  go_wp2_with fail
  generalize ((w.alloc (.cells #[.int .i64 0, .int .i64 0, .int .i64 0, .int .i64 0, .int .i64 0, .int .i64 0] 25)).alloc (.cells #[.int .i64 0, .int .i64 0] 35)).alloc (.cells #[.slice A n c0, .int .i64 0, .int .u64 0] 70) = W1 at *
  refine (track _ 0 W1 HC0.out (by omega)).mono ?_
  rintro e w2 ⟨a, b, c, d, h, l, rfl, hc, hg⟩
  have R1 := Lib.hid (at_grown R0.out hg (by omega) (by omega))
  have Q1 := Lib.hid (at_grown Q0.out hg (by omega) (by omega))
  have HC1 := Lib.hid hc
  clear hc hg R0 Q0 HC0
  go_wp2_with fail
  refine (drawp7.anyPlace _ _ w2 HC1.out (by omega)).mono ?_
  rintro e w3 ⟨x, y, rfl, -, hc, hg⟩
  have R2 := Lib.hid (at_grown R1.out hg (by omega) (by omega))
  have Q2 := Lib.hid (at_grown Q1.out hg (by omega) (by omega))
  clear hc hg R1 Q1 HC1
  have r0_ : w3.cell? ⟨w.heap.size, 0, none⟩ = some (.int .i64 0) := R2.out.cell 0
  have rf0_ := R2.out.frozen 0
  have r1_ : w3.cell? ⟨w.heap.size, 1, none⟩ = some (.int .i64 0) := R2.out.cell 1
  have rf1_ := R2.out.frozen 1
  have r2_ : w3.cell? ⟨w.heap.size, 2, none⟩ = some (.int .i64 0) := R2.out.cell 2
  have rf2_ := R2.out.frozen 2
  have r3_ : w3.cell? ⟨w.heap.size, 3, none⟩ = some (.int .i64 0) := R2.out.cell 3
  have rf3_ := R2.out.frozen 3
  have r4_ : w3.cell? ⟨w.heap.size, 4, none⟩ = some (.int .i64 0) := R2.out.cell 4
  have rf4_ := R2.out.frozen 4
  have r5_ : w3.cell? ⟨w.heap.size, 5, none⟩ = some (.int .i64 0) := R2.out.cell 5
  have rf5_ := R2.out.frozen 5
  have q0_ : w3.cell? ⟨w.heap.size + 1, 0, none⟩ = some (.int .i64 0) := Q2.out.cell 0
  have qf0_ := Q2.out.frozen 0
  have q1_ : w3.cell? ⟨w.heap.size + 1, 1, none⟩ = some (.int .i64 0) := Q2.out.cell 1
  have qf1_ := Q2.out.frozen 1
  have HE := Lib.hid (((((((((R2.out.set 0 (.int .i64 a)).set 1 (.int .i64 b)).set 2 (.int .i64 c)).set 3 (.int .i64 d)).set 4 (.int .i64 h)).set 5 (.int .i64 l))).other (b' := w.heap.size + 1) (Nat.le_succ _) (Nat.ne_of_lt (Nat.lt_succ_self _)) 0 (.int .i64 x)).other (b' := w.heap.size + 1) (Nat.le_succ _) (Nat.ne_of_lt (Nat.lt_succ_self _)) 1 (.int .i64 y))
  have HF := Lib.hid ((((((((Q2.out.other (b' := w.heap.size) (Nat.le_refl _) (Nat.succ_ne_self _) 0 (.int .i64 a)).other (b' := w.heap.size) (Nat.le_refl _) (Nat.succ_ne_self _) 1 (.int .i64 b)).other (b' := w.heap.size) (Nat.le_refl _) (Nat.succ_ne_self _) 2 (.int .i64 c)).other (b' := w.heap.size) (Nat.le_refl _) (Nat.succ_ne_self _) 3 (.int .i64 d)).other (b' := w.heap.size) (Nat.le_refl _) (Nat.succ_ne_self _) 4 (.int .i64 h)).other (b' := w.heap.size) (Nat.le_refl _) (Nat.succ_ne_self _) 5 (.int .i64 l)).set 0 (.int .i64 x)).set 1 (.int .i64 y))
  go_wp2_with fail
  have hl := HE.out.load Tryz.underlying25 rfl (by kernel_rfl)
  have hf := HF.out.load Tryz.underlying35 rfl (by kernel_rfl)
  refine bodyPost_ret (v := .tuple #[.agg #[.int .i64 a, .int .i64 b, .int .i64 c, .int .i64 d, .int .i64 h, .int .i64 l], .agg #[.int .i64 x, .int .i64 y]]) ?_ rfl ⟨_, _, _, _, _, _, _, _, rfl, HE.out.1⟩
  rw [results_cells2 rfl]
  simp [asAddr, Result.andThen, hl, hf]
end Go.Proofs.YtfigjfckelichaaGreatDoor.drawx14
