/- spec's draws of tracks. -/
import Derived.Test.YtinkkdgjpcnklaaDoorAtC
import Derived.Test.YtinkkdgjpcnklaaDoorCode
import Derived.Test.YtinkkdgjpcnklaaDoorDrawP7
import Derived.Test.YtinkkdgjpcnklaaDoorCurInt
import Derived.Test.YtinkkdgjpcnklaaDoorTrkS
import Derived.Test.YtinkkdgjpcnklaaDoorTrkE
import Derived.Test.YtinkkdgjpcnklaaDoorTailH
import Derived.Deep.AppendLies
import Derived.ChangeAlike
import Derived.Deep.RegionHeld3
import Derived.Deep.CutBlock
import Derived.Deep.CutRange
namespace Go.Proofs.YtinkkdgjpcnklaaDoor.draws14
open Go.RowKit Go.Proofs.YtinkkdgjpcnklaaDoor.cur Go.Proofs.YtinkkdgjpcnklaaDoor.atc Go.Proofs.YtinkkdgjpcnklaaDoor.ats Go.Proofs.YtinkkdgjpcnklaaDoor.ints Go.Proofs.YtinkkdgjpcnklaaDoor.lst Go.Proofs.YtinkkdgjpcnklaaDoor.code_ Go.Proofs.YtinkkdgjpcnklaaDoor.tailh

def TrackQ (p m : Nat) (w : World) (e : Ending) (w' : World) : Prop := ∃ a b c d h l : Int, e = .returned (.agg #[.int .i64 a, .int .i64 b, .int .i64 c, .int .i64 d, .int .i64 h, .int .i64 l]) ∧ Cur w' p m ∧ w.grownBy w' (some p)

theorem grown_put {w W : World} {p b i : Nat} {v : Value} (h : w.grownBy W (some p)) (hb : w.heap.size ≤ b) : w.grownBy (W.setCell ⟨b, i, none⟩ v) (some p) :=
  ⟨h.os, h.tape, h.output, by have := h.size; simpa [World.setCell] using this, fun k hk hne => (Go.Deep.blk_setCell_other W ⟨b, i, none⟩ v k (by show k ≠ b; omega)).trans (h.block k hk hne)⟩
theorem grown_dr {w W : World} {p : Nat} (h : w.grownBy W (some p)) : w.grownBy W.drew (some p) := ⟨h.os, h.tape, h.output, h.size, h.block⟩

set_option maxRecDepth 100000 in
set_option maxHeartbeats 16000000 in
theorem track (p m : Nat) (w : World) (h : Cur w p m) (hm : m ≤ 200000) :
    Calls Tryd.prog 42 #[.pointer (some ⟨p, 0, none⟩)] w (TrackQ p (m + 30) w) := by
  have hzp : p < w.heap.size := h.lt
  have Z0 := Lib.hid (Blk.new 38 #[.int .i64 0, .int .i64 0, .int .i64 0, .int .i64 0, .int .i64 0, .int .i64 0] w)
  have C0 := Lib.hid (Cur.alloc h (.cells #[.int .i64 0, .int .i64 0, .int .i64 0, .int .i64 0, .int .i64 0, .int .i64 0] 38))
  have G0 := Lib.hid (show w.grownBy (w.alloc (.cells #[.int .i64 0, .int .i64 0, .int .i64 0, .int .i64 0, .int .i64 0, .int .i64 0] 38)) (some p) from grown_alloc _ _)
  clear h
  go_enter Tryd.func42, Tryd.ntmps42
  go_wp2_with fail
  generalize w.alloc (.cells #[.int .i64 0, .int .i64 0, .int .i64 0, .int .i64 0, .int .i64 0, .int .i64 0] 38) = W0 at *
  refine (drawp7.place p m W0 C0.out (by omega)).mono ?_
  rintro e w1 ⟨x, y, rfl, -, hc, hg⟩
  have Z1 := Lib.hid ((Z0.out.grown hg (Nat.ne_of_gt hzp)).alloc (.cells #[.int .i64 x, .int .i64 y] 51))
  have P2 := Lib.hid (Blk.new 51 #[.int .i64 x, .int .i64 y] w1)
  have C2 := Lib.hid (Cur.alloc hc (.cells #[.int .i64 x, .int .i64 y] 51))
  have hpp : p < w1.heap.size := hc.lt
  have G2 := Lib.hid (grown_trans (grown_trans G0.out hg) (grown_alloc (.cells #[.int .i64 x, .int .i64 y] 51) (some p)))
  clear hc hg Z0 C0 G0
  go_upto_region 2 with fail
  generalize w1.alloc (.cells #[.int .i64 x, .int .i64 y] 51) = W1 at *
  generalize w1.heap.size = pb at *
  go_cut [4] from 7 to 17 (fun v wx => ∃ b i s, v = .pointer (some ⟨b, 0, none⟩) ∧ p < b ∧ w.heap.size < b ∧ Blk 38 #[.int .i64 i, .int .i64 s, .int .i64 x, .int .i64 y, .int .i64 0, .int .i64 0] wx b ∧ Blk 38 #[.int .i64 0, .int .i64 0, .int .i64 0, .int .i64 0, .int .i64 0, .int .i64 0] wx w.heap.size ∧ Cur wx p (m + 14) ∧ w.grownBy wx (some p))
  case first =>
    have P2 := Lib.hid P2.out.drew
    have Z2 := Lib.hid Z1.out.drew
    have C2 := Lib.hid (C2.out.keep ((Below.refl (p + 1) W1).drew))
    have G2 := Lib.hid (grown_dr G2.out)
    clear Z1
    refine wp_region_tail (S := fun w' => Blk 51 #[.int .i64 x, .int .i64 y] w' pb) 12 (by kernel_rfl) P2.out (fun hHeld => ?_)
    generalize W1.drew = W2 at *
    try simp only [Act.put]
    refine wpAnyE_take (i := 0) (v := ?vqz0) rfl (by decide +kernel) (fun _ _ _ h => h) (Or.inl ⟨by rfl, ?hqz0⟩) (by assumption) ?rqz0
    case hqz0 =>
      intro wS hSw
      have h0 := hSw.cell 0 _ rfl
      have h1 := hSw.cell 1 _ rfl
      go_simp
      try with_reducible rfl
    try simp only [Act.put]
    refine wpAnyE_take (i := 3) (v := ?vqz3) rfl (by decide +kernel) (fun _ _ _ h => h) (Or.inl ⟨by rfl, ?hqz3⟩) (by assumption) ?rqz3
    case hqz3 =>
      intro wS hSw
      have h0 := hSw.cell 0 _ rfl
      have h1 := hSw.cell 1 _ rfl
      go_simp
      try with_reducible rfl
    try simp only [Act.put]
    refine wpAnyE_take (i := 6) (v := ?vqz6) rfl (by decide +kernel) (fun _ _ _ h => h) (Or.inl ⟨by rfl, ?hqz6⟩) (by assumption) ?rqz6
    case hqz6 =>
      intro wS hSw
      have h0 := hSw.cell 0 _ rfl
      have h1 := hSw.cell 1 _ rfl
      go_simp
      try with_reducible rfl
    try simp only [Act.put]
    refine wpAnyE_take (i := 7) (v := ?vqz7) rfl (by decide +kernel) (fun _ _ _ h => h) (Or.inl ⟨by rfl, ?hqz7⟩) (by assumption) ?rqz7
    case hqz7 =>
      intro wS hSw
      have h0 := hSw.cell 0 _ rfl
      have h1 := hSw.cell 1 _ rfl
      go_simp
      try with_reducible rfl
    try simp only [Act.put]
    refine wpAnyE_take (i := 8) (v := ?vqz8) rfl (by decide +kernel) (fun _ _ _ h => h) (Or.inl ⟨by rfl, ?hqz8⟩) (by assumption) ?rqz8
    case hqz8 =>
      intro wS hSw
      have h0 := hSw.cell 0 _ rfl
      have h1 := hSw.cell 1 _ rfl
      go_simp
      try with_reducible rfl
    try simp only [Act.put]
    refine wpAnyE_take (i := 9) (v := ?vqz9) rfl (by decide +kernel) (fun _ _ _ h => h) (Or.inl ⟨by rfl, ?hqz9⟩) (by assumption) ?rqz9
    case hqz9 =>
      intro wS hSw
      have h0 := hSw.cell 0 _ rfl
      have h1 := hSw.cell 1 _ rfl
      go_simp
      try with_reducible rfl
    try simp only [Act.put]
    refine wpAnyE_ready (rs := [1, 11]) (by kernel_rfl) (by simp) ?_
    refine AllReadyE.cons (i := 1) rfl (by decide) (fun K hK => ?_) (AllReadyE.cons (i := 11) rfl (by decide) (fun K hK => ?_) AllReadyE.nil)
    · go_simp
      refine (pick p _ 20 W2 C2.out (by omega) (by omega) (by omega)).mono ?_
      rintro e Woa ⟨i, rfl, i0, i1, hc, hg⟩
      have Poa := Lib.hid (P2.out.grown hg (Nat.ne_of_gt hpp))
      have Zoa := Lib.hid (Z2.out.grown hg (Nat.ne_of_gt hzp))
      have Goa := Lib.hid (grown_trans G2.out hg)
      have Coa := Lib.hid hc
      clear hc hg
      refine hK.out _ _ Poa.out (fun hHeld => ?_)
      clear hK K
      try simp only [Act.put]
      refine wpAnyE_take (i := 2) (v := ?vqoa2) rfl (by decide +kernel) (fun _ _ _ h => h) (Or.inl ⟨by rfl, ?hqoa2⟩) (by assumption) ?rqoa2
      case hqoa2 =>
        intro wS hSw
        have h0 := hSw.cell 0 _ rfl
        have h1 := hSw.cell 1 _ rfl
        go_simp
        try with_reducible rfl
      try simp only [Act.put]
      refine wpAnyE_ready (rs := [4, 11]) (by kernel_rfl) (by simp) ?_
      refine AllReadyE.cons (i := 4) rfl (by decide) (fun K hK => ?_) (AllReadyE.cons (i := 11) rfl (by decide) (fun K hK => ?_) AllReadyE.nil)
      · go_simp
        refine (pick p _ 3 Woa Coa.out (by omega) (by omega) (by omega)).mono ?_
        rintro e Woab ⟨s, rfl, s0, s1, hc, hg⟩
        have Poab := Lib.hid (Poa.out.grown hg (Nat.ne_of_gt hpp))
        have Zoab := Lib.hid (Zoa.out.grown hg (Nat.ne_of_gt hzp))
        have Goab := Lib.hid (grown_trans Goa.out hg)
        have Coab := Lib.hid hc
        clear hc hg
        refine hK.out _ _ Poab.out (fun hHeld => ?_)
        clear hK K
        try simp only [Act.put]
        refine wpAnyE_take (i := 5) (v := ?vqoab5) rfl (by decide +kernel) (fun _ _ _ h => h) (Or.inl ⟨by rfl, ?hqoab5⟩) (by assumption) ?rqoab5
        case hqoab5 =>
          intro wS hSw
          have h0 := hSw.cell 0 _ rfl
          have h1 := hSw.cell 1 _ rfl
          go_simp
          try with_reducible rfl
        try simp only [Act.put]
        refine wpAnyE_take (i := 10) (v := ?vqoab10) rfl (by decide +kernel) (fun _ _ _ h => h) (Or.inl ⟨by rfl, ?hqoab10⟩) (by assumption) ?rqoab10
        case hqoab10 =>
          intro wS hSw
          have h0 := hSw.cell 0 _ rfl
          have h1 := hSw.cell 1 _ rfl
          go_simp
          try with_reducible rfl
        try simp only [Act.put]
        refine wpAnyE_ready (rs := [11]) (by kernel_rfl) (by simp) ?_
        refine AllReadyE.cons (i := 11) rfl (by decide) (fun K hK => ?_) AllReadyE.nil
        go_simp
        have hszoabc := Poab.out.lt
        have htp : p < Woab.heap.size := Nat.lt_trans hpp Poab.out.lt
        have hzt : w.heap.size < Woab.heap.size := Zoab.out.lt
        have Poabc := Lib.hid (Poab.out.alloc (.cells #[.int .i64 0, .int .i64 0, .int .i64 0, .int .i64 0, .int .i64 0, .int .i64 0] 38))
        have Zoabc := Lib.hid (Zoab.out.alloc (.cells #[.int .i64 0, .int .i64 0, .int .i64 0, .int .i64 0, .int .i64 0, .int .i64 0] 38))
        have Goabc := Lib.hid (grown_trans Goab.out (grown_alloc (.cells #[.int .i64 0, .int .i64 0, .int .i64 0, .int .i64 0, .int .i64 0, .int .i64 0] 38) (some p)))
        have Coabc := Lib.hid (Cur.alloc Coab.out (.cells #[.int .i64 0, .int .i64 0, .int .i64 0, .int .i64 0, .int .i64 0, .int .i64 0] 38))
        have Toabc := Lib.hid (Blk.new 38 #[.int .i64 0, .int .i64 0, .int .i64 0, .int .i64 0, .int .i64 0, .int .i64 0] Woab)
        clear hszoabc
        refine hK.out _ _ Poabc.out (fun hHeld => ?_)
        clear hK K
        try simp only [Act.put]
        generalize Woab.alloc (.cells #[.int .i64 0, .int .i64 0, .int .i64 0, .int .i64 0, .int .i64 0, .int .i64 0] 38) = Voabc at *
        generalize Woab.heap.size = boabc at *
        have s0 : Voabc.cell? ⟨boabc, 0, none⟩ = some (.int .i64 0) := Toabc.out.cell 0 _ rfl
        have sf0 := Toabc.out.frozen 0
        have s1 : Voabc.cell? ⟨boabc, 1, none⟩ = some (.int .i64 0) := Toabc.out.cell 1 _ rfl
        have sf1 := Toabc.out.frozen 1
        have s2 : Voabc.cell? ⟨boabc, 2, none⟩ = some (.int .i64 0) := Toabc.out.cell 2 _ rfl
        have sf2 := Toabc.out.frozen 2
        have s3 : Voabc.cell? ⟨boabc, 3, none⟩ = some (.int .i64 0) := Toabc.out.cell 3 _ rfl
        have sf3 := Toabc.out.frozen 3
        have s4 : Voabc.cell? ⟨boabc, 4, none⟩ = some (.int .i64 0) := Toabc.out.cell 4 _ rfl
        have sf4 := Toabc.out.frozen 4
        have s5 : Voabc.cell? ⟨boabc, 5, none⟩ = some (.int .i64 0) := Toabc.out.cell 5 _ rfl
        have sf5 := Toabc.out.frozen 5
        refine wpAnyE_ready (rs := [12]) (by kernel_rfl) (by simp) ?_
        refine AllReadyE.last (i := 12) rfl rfl (fun K hK => ?_)
        go_simp
        refine hK.out _ _ ?_
        clear hK K
        try simp only [Act.put]
        refine wpAnyE_done (by kernel_rfl) ?_ _
        try simp only [List.getElem_toArray, List.getElem_cons_succ, List.getElem_cons_zero, List.setIfInBounds_toArray, List.set_cons_succ, List.set_cons_zero]
        go_wp2_with fail
        go_meet
        exact ⟨_, _, _, rfl, htp, hzt, ((((((Toabc.out.set 0 (.int .i64 (IntKind.i64.wrap (1 + i)))).set 1 (.int .i64 (IntKind.i64.wrap (1 + s)))).set 2 (.int .i64 x)).set 3 (.int .i64 y)).set 4 (.int .i64 0)).set 5 (.int .i64 0)), ((((((Zoabc.out.other (Nat.ne_of_lt hzt) 0 (.int .i64 (IntKind.i64.wrap (1 + i)))).other (Nat.ne_of_lt hzt) 1 (.int .i64 (IntKind.i64.wrap (1 + s)))).other (Nat.ne_of_lt hzt) 2 (.int .i64 x)).other (Nat.ne_of_lt hzt) 3 (.int .i64 y)).other (Nat.ne_of_lt hzt) 4 (.int .i64 0)).other (Nat.ne_of_lt hzt) 5 (.int .i64 0)), (Cur.set (Cur.set (Cur.set (Cur.set (Cur.set (Cur.set Coabc.out htp (i := 0) (v := .int .i64 (IntKind.i64.wrap (1 + i)))) htp (i := 1) (v := .int .i64 (IntKind.i64.wrap (1 + s)))) htp (i := 2) (v := .int .i64 x)) htp (i := 3) (v := .int .i64 y)) htp (i := 4) (v := .int .i64 0)) htp (i := 5) (v := .int .i64 0)).more (by omega), (grown_put (grown_put (grown_put (grown_put (grown_put (grown_put Goabc.out (Nat.le_of_lt hzt) (i := 0) (v := .int .i64 (IntKind.i64.wrap (1 + i)))) (Nat.le_of_lt hzt) (i := 1) (v := .int .i64 (IntKind.i64.wrap (1 + s)))) (Nat.le_of_lt hzt) (i := 2) (v := .int .i64 x)) (Nat.le_of_lt hzt) (i := 3) (v := .int .i64 y)) (Nat.le_of_lt hzt) (i := 4) (v := .int .i64 0)) (Nat.le_of_lt hzt) (i := 5) (v := .int .i64 0))⟩
      · go_simp
        have hszoac := Poa.out.lt
        have htp : p < Woa.heap.size := Nat.lt_trans hpp Poa.out.lt
        have hzt : w.heap.size < Woa.heap.size := Zoa.out.lt
        have Poac := Lib.hid (Poa.out.alloc (.cells #[.int .i64 0, .int .i64 0, .int .i64 0, .int .i64 0, .int .i64 0, .int .i64 0] 38))
        have Zoac := Lib.hid (Zoa.out.alloc (.cells #[.int .i64 0, .int .i64 0, .int .i64 0, .int .i64 0, .int .i64 0, .int .i64 0] 38))
        have Goac := Lib.hid (grown_trans Goa.out (grown_alloc (.cells #[.int .i64 0, .int .i64 0, .int .i64 0, .int .i64 0, .int .i64 0, .int .i64 0] 38) (some p)))
        have Coac := Lib.hid (Cur.alloc Coa.out (.cells #[.int .i64 0, .int .i64 0, .int .i64 0, .int .i64 0, .int .i64 0, .int .i64 0] 38))
        have Toac := Lib.hid (Blk.new 38 #[.int .i64 0, .int .i64 0, .int .i64 0, .int .i64 0, .int .i64 0, .int .i64 0] Woa)
        clear hszoac
        refine hK.out _ _ Poac.out (fun hHeld => ?_)
        clear hK K
        try simp only [Act.put]
        generalize Woa.alloc (.cells #[.int .i64 0, .int .i64 0, .int .i64 0, .int .i64 0, .int .i64 0, .int .i64 0] 38) = Voac at *
        generalize Woa.heap.size = boac at *
        refine wpAnyE_ready (rs := [4]) (by kernel_rfl) (by simp) ?_
        refine AllReadyE.cons (i := 4) rfl (by decide) (fun K hK => ?_) AllReadyE.nil
        go_simp
        refine (pick p _ 3 Voac Coac.out (by omega) (by omega) (by omega)).mono ?_
        rintro e Woacb ⟨s, rfl, s0, s1, hc, hg⟩
        have Poacb := Lib.hid (Poac.out.grown hg (Nat.ne_of_gt hpp))
        have Zoacb := Lib.hid (Zoac.out.grown hg (Nat.ne_of_gt hzp))
        have Goacb := Lib.hid (grown_trans Goac.out hg)
        have Coacb := Lib.hid hc
        have Toacb := Lib.hid (Toac.out.grown hg (Nat.ne_of_gt htp))
        clear hc hg
        refine hK.out _ _ Poacb.out (fun hHeld => ?_)
        clear hK K
        try simp only [Act.put]
        refine wpAnyE_take (i := 5) (v := ?vqoacb5) rfl (by decide +kernel) (fun _ _ _ h => h) (Or.inl ⟨by rfl, ?hqoacb5⟩) (by assumption) ?rqoacb5
        case hqoacb5 =>
          intro wS hSw
          have h0 := hSw.cell 0 _ rfl
          have h1 := hSw.cell 1 _ rfl
          go_simp
          try with_reducible rfl
        try simp only [Act.put]
        refine wpAnyE_take (i := 10) (v := ?vqoacb10) rfl (by decide +kernel) (fun _ _ _ h => h) (Or.inl ⟨by rfl, ?hqoacb10⟩) (by assumption) ?rqoacb10
        case hqoacb10 =>
          intro wS hSw
          have h0 := hSw.cell 0 _ rfl
          have h1 := hSw.cell 1 _ rfl
          go_simp
          try with_reducible rfl
        try simp only [Act.put]
        have s0 : Woacb.cell? ⟨boac, 0, none⟩ = some (.int .i64 0) := Toacb.out.cell 0 _ rfl
        have sf0 := Toacb.out.frozen 0
        have s1 : Woacb.cell? ⟨boac, 1, none⟩ = some (.int .i64 0) := Toacb.out.cell 1 _ rfl
        have sf1 := Toacb.out.frozen 1
        have s2 : Woacb.cell? ⟨boac, 2, none⟩ = some (.int .i64 0) := Toacb.out.cell 2 _ rfl
        have sf2 := Toacb.out.frozen 2
        have s3 : Woacb.cell? ⟨boac, 3, none⟩ = some (.int .i64 0) := Toacb.out.cell 3 _ rfl
        have sf3 := Toacb.out.frozen 3
        have s4 : Woacb.cell? ⟨boac, 4, none⟩ = some (.int .i64 0) := Toacb.out.cell 4 _ rfl
        have sf4 := Toacb.out.frozen 4
        have s5 : Woacb.cell? ⟨boac, 5, none⟩ = some (.int .i64 0) := Toacb.out.cell 5 _ rfl
        have sf5 := Toacb.out.frozen 5
        refine wpAnyE_ready (rs := [12]) (by kernel_rfl) (by simp) ?_
        refine AllReadyE.last (i := 12) rfl rfl (fun K hK => ?_)
        go_simp
        refine hK.out _ _ ?_
        clear hK K
        try simp only [Act.put]
        refine wpAnyE_done (by kernel_rfl) ?_ _
        try simp only [List.getElem_toArray, List.getElem_cons_succ, List.getElem_cons_zero, List.setIfInBounds_toArray, List.set_cons_succ, List.set_cons_zero]
        go_wp2_with fail
        go_meet
        exact ⟨_, _, _, rfl, htp, hzt, ((((((Toacb.out.set 0 (.int .i64 (IntKind.i64.wrap (1 + i)))).set 1 (.int .i64 (IntKind.i64.wrap (1 + s)))).set 2 (.int .i64 x)).set 3 (.int .i64 y)).set 4 (.int .i64 0)).set 5 (.int .i64 0)), ((((((Zoacb.out.other (Nat.ne_of_lt hzt) 0 (.int .i64 (IntKind.i64.wrap (1 + i)))).other (Nat.ne_of_lt hzt) 1 (.int .i64 (IntKind.i64.wrap (1 + s)))).other (Nat.ne_of_lt hzt) 2 (.int .i64 x)).other (Nat.ne_of_lt hzt) 3 (.int .i64 y)).other (Nat.ne_of_lt hzt) 4 (.int .i64 0)).other (Nat.ne_of_lt hzt) 5 (.int .i64 0)), (Cur.set (Cur.set (Cur.set (Cur.set (Cur.set (Cur.set Coacb.out htp (i := 0) (v := .int .i64 (IntKind.i64.wrap (1 + i)))) htp (i := 1) (v := .int .i64 (IntKind.i64.wrap (1 + s)))) htp (i := 2) (v := .int .i64 x)) htp (i := 3) (v := .int .i64 y)) htp (i := 4) (v := .int .i64 0)) htp (i := 5) (v := .int .i64 0)).more (by omega), (grown_put (grown_put (grown_put (grown_put (grown_put (grown_put Goacb.out (Nat.le_of_lt hzt) (i := 0) (v := .int .i64 (IntKind.i64.wrap (1 + i)))) (Nat.le_of_lt hzt) (i := 1) (v := .int .i64 (IntKind.i64.wrap (1 + s)))) (Nat.le_of_lt hzt) (i := 2) (v := .int .i64 x)) (Nat.le_of_lt hzt) (i := 3) (v := .int .i64 y)) (Nat.le_of_lt hzt) (i := 4) (v := .int .i64 0)) (Nat.le_of_lt hzt) (i := 5) (v := .int .i64 0))⟩
    · go_simp
      have hszoc := P2.out.lt
      have htp : p < W2.heap.size := Nat.lt_trans hpp P2.out.lt
      have hzt : w.heap.size < W2.heap.size := Z2.out.lt
      have Poc := Lib.hid (P2.out.alloc (.cells #[.int .i64 0, .int .i64 0, .int .i64 0, .int .i64 0, .int .i64 0, .int .i64 0] 38))
      have Zoc := Lib.hid (Z2.out.alloc (.cells #[.int .i64 0, .int .i64 0, .int .i64 0, .int .i64 0, .int .i64 0, .int .i64 0] 38))
      have Goc := Lib.hid (grown_trans G2.out (grown_alloc (.cells #[.int .i64 0, .int .i64 0, .int .i64 0, .int .i64 0, .int .i64 0, .int .i64 0] 38) (some p)))
      have Coc := Lib.hid (Cur.alloc C2.out (.cells #[.int .i64 0, .int .i64 0, .int .i64 0, .int .i64 0, .int .i64 0, .int .i64 0] 38))
      have Toc := Lib.hid (Blk.new 38 #[.int .i64 0, .int .i64 0, .int .i64 0, .int .i64 0, .int .i64 0, .int .i64 0] W2)
      clear hszoc
      refine hK.out _ _ Poc.out (fun hHeld => ?_)
      clear hK K
      try simp only [Act.put]
      generalize W2.alloc (.cells #[.int .i64 0, .int .i64 0, .int .i64 0, .int .i64 0, .int .i64 0, .int .i64 0] 38) = Voc at *
      generalize W2.heap.size = boc at *
      refine wpAnyE_ready (rs := [1]) (by kernel_rfl) (by simp) ?_
      refine AllReadyE.cons (i := 1) rfl (by decide) (fun K hK => ?_) AllReadyE.nil
      go_simp
      refine (pick p _ 20 Voc Coc.out (by omega) (by omega) (by omega)).mono ?_
      rintro e Woca ⟨i, rfl, i0, i1, hc, hg⟩
      have Poca := Lib.hid (Poc.out.grown hg (Nat.ne_of_gt hpp))
      have Zoca := Lib.hid (Zoc.out.grown hg (Nat.ne_of_gt hzp))
      have Goca := Lib.hid (grown_trans Goc.out hg)
      have Coca := Lib.hid hc
      have Toca := Lib.hid (Toc.out.grown hg (Nat.ne_of_gt htp))
      clear hc hg
      refine hK.out _ _ Poca.out (fun hHeld => ?_)
      clear hK K
      try simp only [Act.put]
      refine wpAnyE_take (i := 2) (v := ?vqoca2) rfl (by decide +kernel) (fun _ _ _ h => h) (Or.inl ⟨by rfl, ?hqoca2⟩) (by assumption) ?rqoca2
      case hqoca2 =>
        intro wS hSw
        have h0 := hSw.cell 0 _ rfl
        have h1 := hSw.cell 1 _ rfl
        go_simp
        try with_reducible rfl
      try simp only [Act.put]
      refine wpAnyE_ready (rs := [4]) (by kernel_rfl) (by simp) ?_
      refine AllReadyE.cons (i := 4) rfl (by decide) (fun K hK => ?_) AllReadyE.nil
      go_simp
      refine (pick p _ 3 Woca Coca.out (by omega) (by omega) (by omega)).mono ?_
      rintro e Wocab ⟨s, rfl, s0, s1, hc, hg⟩
      have Pocab := Lib.hid (Poca.out.grown hg (Nat.ne_of_gt hpp))
      have Zocab := Lib.hid (Zoca.out.grown hg (Nat.ne_of_gt hzp))
      have Gocab := Lib.hid (grown_trans Goca.out hg)
      have Cocab := Lib.hid hc
      have Tocab := Lib.hid (Toca.out.grown hg (Nat.ne_of_gt htp))
      clear hc hg
      refine hK.out _ _ Pocab.out (fun hHeld => ?_)
      clear hK K
      try simp only [Act.put]
      refine wpAnyE_take (i := 5) (v := ?vqocab5) rfl (by decide +kernel) (fun _ _ _ h => h) (Or.inl ⟨by rfl, ?hqocab5⟩) (by assumption) ?rqocab5
      case hqocab5 =>
        intro wS hSw
        have h0 := hSw.cell 0 _ rfl
        have h1 := hSw.cell 1 _ rfl
        go_simp
        try with_reducible rfl
      try simp only [Act.put]
      refine wpAnyE_take (i := 10) (v := ?vqocab10) rfl (by decide +kernel) (fun _ _ _ h => h) (Or.inl ⟨by rfl, ?hqocab10⟩) (by assumption) ?rqocab10
      case hqocab10 =>
        intro wS hSw
        have h0 := hSw.cell 0 _ rfl
        have h1 := hSw.cell 1 _ rfl
        go_simp
        try with_reducible rfl
      try simp only [Act.put]
      have s0 : Wocab.cell? ⟨boc, 0, none⟩ = some (.int .i64 0) := Tocab.out.cell 0 _ rfl
      have sf0 := Tocab.out.frozen 0
      have s1 : Wocab.cell? ⟨boc, 1, none⟩ = some (.int .i64 0) := Tocab.out.cell 1 _ rfl
      have sf1 := Tocab.out.frozen 1
      have s2 : Wocab.cell? ⟨boc, 2, none⟩ = some (.int .i64 0) := Tocab.out.cell 2 _ rfl
      have sf2 := Tocab.out.frozen 2
      have s3 : Wocab.cell? ⟨boc, 3, none⟩ = some (.int .i64 0) := Tocab.out.cell 3 _ rfl
      have sf3 := Tocab.out.frozen 3
      have s4 : Wocab.cell? ⟨boc, 4, none⟩ = some (.int .i64 0) := Tocab.out.cell 4 _ rfl
      have sf4 := Tocab.out.frozen 4
      have s5 : Wocab.cell? ⟨boc, 5, none⟩ = some (.int .i64 0) := Tocab.out.cell 5 _ rfl
      have sf5 := Tocab.out.frozen 5
      refine wpAnyE_ready (rs := [12]) (by kernel_rfl) (by simp) ?_
      refine AllReadyE.last (i := 12) rfl rfl (fun K hK => ?_)
      go_simp
      refine hK.out _ _ ?_
      clear hK K
      try simp only [Act.put]
      refine wpAnyE_done (by kernel_rfl) ?_ _
      try simp only [List.getElem_toArray, List.getElem_cons_succ, List.getElem_cons_zero, List.setIfInBounds_toArray, List.set_cons_succ, List.set_cons_zero]
      go_wp2_with fail
      go_meet
      exact ⟨_, _, _, rfl, htp, hzt, ((((((Tocab.out.set 0 (.int .i64 (IntKind.i64.wrap (1 + i)))).set 1 (.int .i64 (IntKind.i64.wrap (1 + s)))).set 2 (.int .i64 x)).set 3 (.int .i64 y)).set 4 (.int .i64 0)).set 5 (.int .i64 0)), ((((((Zocab.out.other (Nat.ne_of_lt hzt) 0 (.int .i64 (IntKind.i64.wrap (1 + i)))).other (Nat.ne_of_lt hzt) 1 (.int .i64 (IntKind.i64.wrap (1 + s)))).other (Nat.ne_of_lt hzt) 2 (.int .i64 x)).other (Nat.ne_of_lt hzt) 3 (.int .i64 y)).other (Nat.ne_of_lt hzt) 4 (.int .i64 0)).other (Nat.ne_of_lt hzt) 5 (.int .i64 0)), (Cur.set (Cur.set (Cur.set (Cur.set (Cur.set (Cur.set Cocab.out htp (i := 0) (v := .int .i64 (IntKind.i64.wrap (1 + i)))) htp (i := 1) (v := .int .i64 (IntKind.i64.wrap (1 + s)))) htp (i := 2) (v := .int .i64 x)) htp (i := 3) (v := .int .i64 y)) htp (i := 4) (v := .int .i64 0)) htp (i := 5) (v := .int .i64 0)).more (by omega), (grown_put (grown_put (grown_put (grown_put (grown_put (grown_put Gocab.out (Nat.le_of_lt hzt) (i := 0) (v := .int .i64 (IntKind.i64.wrap (1 + i)))) (Nat.le_of_lt hzt) (i := 1) (v := .int .i64 (IntKind.i64.wrap (1 + s)))) (Nat.le_of_lt hzt) (i := 2) (v := .int .i64 x)) (Nat.le_of_lt hzt) (i := 3) (v := .int .i64 y)) (Nat.le_of_lt hzt) (i := 4) (v := .int .i64 0)) (Nat.le_of_lt hzt) (i := 5) (v := .int .i64 0))⟩
  case rest =>
    obtain ⟨b, i, s, rfl, htp, hzt, hT, hZ, hC, hG⟩ := hcut
    have HT := Lib.hid hT
    have HZ := Lib.hid hZ
    have HC := Lib.hid hC
    have HG := Lib.hid hG
    clear hT hZ hC hG P2 Z1 C2 G2
    have t0 : wc.cell? ⟨b, 0, none⟩ = some (.int .i64 i) := HT.out.cell 0 _ rfl
    have tf0 := HT.out.frozen 0
    have t1 : wc.cell? ⟨b, 1, none⟩ = some (.int .i64 s) := HT.out.cell 1 _ rfl
    have tf1 := HT.out.frozen 1
    have t2 : wc.cell? ⟨b, 2, none⟩ = some (.int .i64 x) := HT.out.cell 2 _ rfl
    have tf2 := HT.out.frozen 2
    have t3 : wc.cell? ⟨b, 3, none⟩ = some (.int .i64 y) := HT.out.cell 3 _ rfl
    have tf3 := HT.out.frozen 3
    have t4 : wc.cell? ⟨b, 4, none⟩ = some (.int .i64 0) := HT.out.cell 4 _ rfl
    have tf4 := HT.out.frozen 4
    have t5 : wc.cell? ⟨b, 5, none⟩ = some (.int .i64 0) := HT.out.cell 5 _ rfl
    have tf5 := HT.out.frozen 5
    by_cases g1 : s = 1
    · subst g1
      go_wp2_with fail
      refine (pick p _ 2 wc HC.out (by omega) (by omega) (by omega)).mono ?_
      rintro e wr ⟨r, rfl, r0, r1, hc, hg⟩
      clear t0 tf0 t1 tf1 t2 tf2 t3 tf3 t4 tf4 t5 tf5
      have HT := Lib.hid (HT.out.grown hg (Nat.ne_of_gt htp))
      have HZ := Lib.hid (HZ.out.grown hg (Nat.ne_of_gt hzp))
      have HC := Lib.hid hc
      have HG := Lib.hid (grown_trans HG.out hg)
      clear hc hg
      have e1 : IntKind.i64.wrap (1 + r) = 1 + r := IntWalk.i64_in _ (by omega)
      have t0 : wr.cell? ⟨b, 0, none⟩ = some (.int .i64 i) := HT.out.cell 0 _ rfl
      have tf0 := HT.out.frozen 0
      have t1 : wr.cell? ⟨b, 1, none⟩ = some (.int .i64 1) := HT.out.cell 1 _ rfl
      have tf1 := HT.out.frozen 1
      have t2 : wr.cell? ⟨b, 2, none⟩ = some (.int .i64 x) := HT.out.cell 2 _ rfl
      have tf2 := HT.out.frozen 2
      have t3 : wr.cell? ⟨b, 3, none⟩ = some (.int .i64 y) := HT.out.cell 3 _ rfl
      have tf3 := HT.out.frozen 3
      have t4 : wr.cell? ⟨b, 4, none⟩ = some (.int .i64 0) := HT.out.cell 4 _ rfl
      have tf4 := HT.out.frozen 4
      have t5 : wr.cell? ⟨b, 5, none⟩ = some (.int .i64 0) := HT.out.cell 5 _ rfl
      have tf5 := HT.out.frozen 5
      go_upto_region 10 with fail
      clear t0 tf0 t1 tf1 t2 tf2 t3 tf3 t4 tf4 t5 tf5
      have HT := Lib.hid (HT.out.set 4 (.int .i64 (1 + r)))
      have HZ := Lib.hid (HZ.out.other (Nat.ne_of_lt hzt) 4 (.int .i64 (1 + r)))
      have HC := Lib.hid (Cur.set HC.out htp (i := 4) (v := .int .i64 (1 + r)))
      have HG := Lib.hid (grown_put HG.out (Nat.le_of_lt hzt) (i := 4) (v := .int .i64 (1 + r)))
      generalize wr.setCell ⟨b, 4, none⟩ (.int .i64 (1 + r)) = wrv at *
      generalize 1 + r = c4 at *
      clear e1 r0 r1
      have t0 : wrv.cell? ⟨b, 0, none⟩ = some (.int .i64 i) := HT.out.cell 0 _ rfl
      have tf0 := HT.out.frozen 0
      have t1 : wrv.cell? ⟨b, 1, none⟩ = some (.int .i64 1) := HT.out.cell 1 _ rfl
      have tf1 := HT.out.frozen 1
      have t2 : wrv.cell? ⟨b, 2, none⟩ = some (.int .i64 x) := HT.out.cell 2 _ rfl
      have tf2 := HT.out.frozen 2
      have t3 : wrv.cell? ⟨b, 3, none⟩ = some (.int .i64 y) := HT.out.cell 3 _ rfl
      have tf3 := HT.out.frozen 3
      have t4 : wrv.cell? ⟨b, 4, none⟩ = some (.int .i64 c4) := HT.out.cell 4 _ rfl
      have tf4 := HT.out.frozen 4
      have t5 : wrv.cell? ⟨b, 5, none⟩ = some (.int .i64 0) := HT.out.cell 5 _ rfl
      have tf5 := HT.out.frozen 5
      go_upto_region 10 with fail
      clear t0 tf0 t1 tf1 t2 tf2 t3 tf3 t4 tf4 t5 tf5
      go_wp2_with fail
      refine (pick p _ 24 wrv HC.out (by omega) (by omega) (by omega)).mono ?_
      rintro e wk ⟨k, rfl, k0, k1, hc, hg⟩
      have HT := Lib.hid (HT.out.grown hg (Nat.ne_of_gt htp))
      have HZ := Lib.hid (HZ.out.grown hg (Nat.ne_of_gt hzp))
      have HC := Lib.hid hc
      have HG := Lib.hid (grown_trans HG.out hg)
      clear hc hg
      by_cases h0 : k = 0
      · subst h0
        go_wp2_with fail
        refine (among_new (0) 10000 p _ 5 [0, 2, 3, 9999, 10000] _ wk HC.out (by omega) (by omega) (by omega) rfl rfl (by decide)).mono ?_
        rintro e wu ⟨u, rfl, u0, u1, hc, hg⟩
        have HT := Lib.hid (HT.out.grown hg (Nat.ne_of_gt htp))
        have HZ := Lib.hid (HZ.out.grown hg (Nat.ne_of_gt hzp))
        have HC := Lib.hid hc
        have HG := Lib.hid (grown_trans HG.out hg)
        clear hc hg
        have t0 : wu.cell? ⟨b, 0, none⟩ = some (.int .i64 i) := HT.out.cell 0 _ rfl
        have tf0 := HT.out.frozen 0
        have t1 : wu.cell? ⟨b, 1, none⟩ = some (.int .i64 1) := HT.out.cell 1 _ rfl
        have tf1 := HT.out.frozen 1
        have t2 : wu.cell? ⟨b, 2, none⟩ = some (.int .i64 x) := HT.out.cell 2 _ rfl
        have tf2 := HT.out.frozen 2
        have t3 : wu.cell? ⟨b, 3, none⟩ = some (.int .i64 y) := HT.out.cell 3 _ rfl
        have tf3 := HT.out.frozen 3
        have t4 : wu.cell? ⟨b, 4, none⟩ = some (.int .i64 c4) := HT.out.cell 4 _ rfl
        have tf4 := HT.out.frozen 4
        have t5 : wu.cell? ⟨b, 5, none⟩ = some (.int .i64 0) := HT.out.cell 5 _ rfl
        have tf5 := HT.out.frozen 5
        go_upto_region 19 with fail
        clear t0 tf0 t1 tf1 t2 tf2 t3 tf3 t4 tf4 t5 tf5
        have HT := Lib.hid (HT.out.set 4 (.int .i64 u))
        have HZ := Lib.hid (HZ.out.other (Nat.ne_of_lt hzt) 4 (.int .i64 u))
        have HC := Lib.hid (Cur.set HC.out htp (i := 4) (v := .int .i64 u))
        have HG := Lib.hid (grown_put HG.out (Nat.le_of_lt hzt) (i := 4) (v := .int .i64 u))
        generalize wu.setCell ⟨b, 4, none⟩ (.int .i64 u) = wv at *
        have z0 : wv.cell? ⟨w.heap.size, 0, none⟩ = some (.int .i64 0) := HZ.out.cell 0 _ rfl
        have zf0 := HZ.out.frozen 0
        have z1 : wv.cell? ⟨w.heap.size, 1, none⟩ = some (.int .i64 0) := HZ.out.cell 1 _ rfl
        have zf1 := HZ.out.frozen 1
        have z2 : wv.cell? ⟨w.heap.size, 2, none⟩ = some (.int .i64 0) := HZ.out.cell 2 _ rfl
        have zf2 := HZ.out.frozen 2
        have z3 : wv.cell? ⟨w.heap.size, 3, none⟩ = some (.int .i64 0) := HZ.out.cell 3 _ rfl
        have zf3 := HZ.out.frozen 3
        have z4 : wv.cell? ⟨w.heap.size, 4, none⟩ = some (.int .i64 0) := HZ.out.cell 4 _ rfl
        have zf4 := HZ.out.frozen 4
        have z5 : wv.cell? ⟨w.heap.size, 5, none⟩ = some (.int .i64 0) := HZ.out.cell 5 _ rfl
        have zf5 := HZ.out.frozen 5
        have t0 : wv.cell? ⟨b, 0, none⟩ = some (.int .i64 i) := HT.out.cell 0 _ rfl
        have tf0 := HT.out.frozen 0
        have t1 : wv.cell? ⟨b, 1, none⟩ = some (.int .i64 1) := HT.out.cell 1 _ rfl
        have tf1 := HT.out.frozen 1
        have t2 : wv.cell? ⟨b, 2, none⟩ = some (.int .i64 x) := HT.out.cell 2 _ rfl
        have tf2 := HT.out.frozen 2
        have t3 : wv.cell? ⟨b, 3, none⟩ = some (.int .i64 y) := HT.out.cell 3 _ rfl
        have tf3 := HT.out.frozen 3
        have t4 : wv.cell? ⟨b, 4, none⟩ = some (.int .i64 u) := HT.out.cell 4 _ rfl
        have tf4 := HT.out.frozen 4
        have t5 : wv.cell? ⟨b, 5, none⟩ = some (.int .i64 0) := HT.out.cell 5 _ rfl
        have tf5 := HT.out.frozen 5
        have HE := Lib.hid ((((((HZ.out.set 0 (.int .i64 i)).set 1 (.int .i64 1)).set 2 (.int .i64 x)).set 3 (.int .i64 y)).set 4 (.int .i64 u)).set 5 (.int .i64 0))
        have HCe := Lib.hid (Cur.set (Cur.set (Cur.set (Cur.set (Cur.set (Cur.set HC.out hzp (i := 0) (v := .int .i64 i)) hzp (i := 1) (v := .int .i64 1)) hzp (i := 2) (v := .int .i64 x)) hzp (i := 3) (v := .int .i64 y)) hzp (i := 4) (v := .int .i64 u)) hzp (i := 5) (v := .int .i64 0))
        have HGe := Lib.hid (grown_put (grown_put (grown_put (grown_put (grown_put (grown_put HG.out (Nat.le_refl _) (i := 0) (v := .int .i64 i)) (Nat.le_refl _) (i := 1) (v := .int .i64 1)) (Nat.le_refl _) (i := 2) (v := .int .i64 x)) (Nat.le_refl _) (i := 3) (v := .int .i64 y)) (Nat.le_refl _) (i := 4) (v := .int .i64 u)) (Nat.le_refl _) (i := 5) (v := .int .i64 0))
        clear HT HZ HC HG
        go_wp2_with fail
        have hl := HE.out.load Tryd.underlying38 rfl (by kernel_rfl)
        refine bodyPost_ret (v := .agg #[.int .i64 i, .int .i64 1, .int .i64 x, .int .i64 y, .int .i64 u, .int .i64 0]) ?_ rfl ⟨_, _, _, _, _, _, rfl, HCe.out.more (by omega), HGe.out⟩
        rw [ats.results_cell1 rfl]
        simp [asAddr, Result.andThen, hl]
      have d0 : (k == 0) = false := by simpa using h0
      by_cases h1 : k = 1
      · subst h1
        go_wp2_with fail
        refine (among_new (-1) 4 p _ 4 [0, 1, 4, -1] _ wk HC.out (by omega) (by omega) (by omega) rfl rfl (by decide)).mono ?_
        rintro e wu ⟨u, rfl, u0, u1, hc, hg⟩
        have HT := Lib.hid (HT.out.grown hg (Nat.ne_of_gt htp))
        have HZ := Lib.hid (HZ.out.grown hg (Nat.ne_of_gt hzp))
        have HC := Lib.hid hc
        have HG := Lib.hid (grown_trans HG.out hg)
        clear hc hg
        have t0 : wu.cell? ⟨b, 0, none⟩ = some (.int .i64 i) := HT.out.cell 0 _ rfl
        have tf0 := HT.out.frozen 0
        have t1 : wu.cell? ⟨b, 1, none⟩ = some (.int .i64 1) := HT.out.cell 1 _ rfl
        have tf1 := HT.out.frozen 1
        have t2 : wu.cell? ⟨b, 2, none⟩ = some (.int .i64 x) := HT.out.cell 2 _ rfl
        have tf2 := HT.out.frozen 2
        have t3 : wu.cell? ⟨b, 3, none⟩ = some (.int .i64 y) := HT.out.cell 3 _ rfl
        have tf3 := HT.out.frozen 3
        have t4 : wu.cell? ⟨b, 4, none⟩ = some (.int .i64 c4) := HT.out.cell 4 _ rfl
        have tf4 := HT.out.frozen 4
        have t5 : wu.cell? ⟨b, 5, none⟩ = some (.int .i64 0) := HT.out.cell 5 _ rfl
        have tf5 := HT.out.frozen 5
        go_upto_region 19 with fail
        clear t0 tf0 t1 tf1 t2 tf2 t3 tf3 t4 tf4 t5 tf5
        have HT := Lib.hid (HT.out.set 5 (.int .i64 u))
        have HZ := Lib.hid (HZ.out.other (Nat.ne_of_lt hzt) 5 (.int .i64 u))
        have HC := Lib.hid (Cur.set HC.out htp (i := 5) (v := .int .i64 u))
        have HG := Lib.hid (grown_put HG.out (Nat.le_of_lt hzt) (i := 5) (v := .int .i64 u))
        generalize wu.setCell ⟨b, 5, none⟩ (.int .i64 u) = wv at *
        have z0 : wv.cell? ⟨w.heap.size, 0, none⟩ = some (.int .i64 0) := HZ.out.cell 0 _ rfl
        have zf0 := HZ.out.frozen 0
        have z1 : wv.cell? ⟨w.heap.size, 1, none⟩ = some (.int .i64 0) := HZ.out.cell 1 _ rfl
        have zf1 := HZ.out.frozen 1
        have z2 : wv.cell? ⟨w.heap.size, 2, none⟩ = some (.int .i64 0) := HZ.out.cell 2 _ rfl
        have zf2 := HZ.out.frozen 2
        have z3 : wv.cell? ⟨w.heap.size, 3, none⟩ = some (.int .i64 0) := HZ.out.cell 3 _ rfl
        have zf3 := HZ.out.frozen 3
        have z4 : wv.cell? ⟨w.heap.size, 4, none⟩ = some (.int .i64 0) := HZ.out.cell 4 _ rfl
        have zf4 := HZ.out.frozen 4
        have z5 : wv.cell? ⟨w.heap.size, 5, none⟩ = some (.int .i64 0) := HZ.out.cell 5 _ rfl
        have zf5 := HZ.out.frozen 5
        have t0 : wv.cell? ⟨b, 0, none⟩ = some (.int .i64 i) := HT.out.cell 0 _ rfl
        have tf0 := HT.out.frozen 0
        have t1 : wv.cell? ⟨b, 1, none⟩ = some (.int .i64 1) := HT.out.cell 1 _ rfl
        have tf1 := HT.out.frozen 1
        have t2 : wv.cell? ⟨b, 2, none⟩ = some (.int .i64 x) := HT.out.cell 2 _ rfl
        have tf2 := HT.out.frozen 2
        have t3 : wv.cell? ⟨b, 3, none⟩ = some (.int .i64 y) := HT.out.cell 3 _ rfl
        have tf3 := HT.out.frozen 3
        have t4 : wv.cell? ⟨b, 4, none⟩ = some (.int .i64 c4) := HT.out.cell 4 _ rfl
        have tf4 := HT.out.frozen 4
        have t5 : wv.cell? ⟨b, 5, none⟩ = some (.int .i64 u) := HT.out.cell 5 _ rfl
        have tf5 := HT.out.frozen 5
        have HE := Lib.hid ((((((HZ.out.set 0 (.int .i64 i)).set 1 (.int .i64 1)).set 2 (.int .i64 x)).set 3 (.int .i64 y)).set 4 (.int .i64 c4)).set 5 (.int .i64 u))
        have HCe := Lib.hid (Cur.set (Cur.set (Cur.set (Cur.set (Cur.set (Cur.set HC.out hzp (i := 0) (v := .int .i64 i)) hzp (i := 1) (v := .int .i64 1)) hzp (i := 2) (v := .int .i64 x)) hzp (i := 3) (v := .int .i64 y)) hzp (i := 4) (v := .int .i64 c4)) hzp (i := 5) (v := .int .i64 u))
        have HGe := Lib.hid (grown_put (grown_put (grown_put (grown_put (grown_put (grown_put HG.out (Nat.le_refl _) (i := 0) (v := .int .i64 i)) (Nat.le_refl _) (i := 1) (v := .int .i64 1)) (Nat.le_refl _) (i := 2) (v := .int .i64 x)) (Nat.le_refl _) (i := 3) (v := .int .i64 y)) (Nat.le_refl _) (i := 4) (v := .int .i64 c4)) (Nat.le_refl _) (i := 5) (v := .int .i64 u))
        clear HT HZ HC HG
        go_wp2_with fail
        have hl := HE.out.load Tryd.underlying38 rfl (by kernel_rfl)
        refine bodyPost_ret (v := .agg #[.int .i64 i, .int .i64 1, .int .i64 x, .int .i64 y, .int .i64 c4, .int .i64 u]) ?_ rfl ⟨_, _, _, _, _, _, rfl, HCe.out.more (by omega), HGe.out⟩
        rw [ats.results_cell1 rfl]
        simp [asAddr, Result.andThen, hl]
      have d1 : (k == 1) = false := by simpa using h1
      by_cases h2 : k = 2
      · subst h2
        go_wp2_with fail
        refine (among_new (-1) 9900 p _ 3 [-1, 9900, 9899] _ wk HC.out (by omega) (by omega) (by omega) rfl rfl (by decide)).mono ?_
        rintro e wu ⟨u, rfl, u0, u1, hc, hg⟩
        have HT := Lib.hid (HT.out.grown hg (Nat.ne_of_gt htp))
        have HZ := Lib.hid (HZ.out.grown hg (Nat.ne_of_gt hzp))
        have HC := Lib.hid hc
        have HG := Lib.hid (grown_trans HG.out hg)
        clear hc hg
        have t0 : wu.cell? ⟨b, 0, none⟩ = some (.int .i64 i) := HT.out.cell 0 _ rfl
        have tf0 := HT.out.frozen 0
        have t1 : wu.cell? ⟨b, 1, none⟩ = some (.int .i64 1) := HT.out.cell 1 _ rfl
        have tf1 := HT.out.frozen 1
        have t2 : wu.cell? ⟨b, 2, none⟩ = some (.int .i64 x) := HT.out.cell 2 _ rfl
        have tf2 := HT.out.frozen 2
        have t3 : wu.cell? ⟨b, 3, none⟩ = some (.int .i64 y) := HT.out.cell 3 _ rfl
        have tf3 := HT.out.frozen 3
        have t4 : wu.cell? ⟨b, 4, none⟩ = some (.int .i64 c4) := HT.out.cell 4 _ rfl
        have tf4 := HT.out.frozen 4
        have t5 : wu.cell? ⟨b, 5, none⟩ = some (.int .i64 0) := HT.out.cell 5 _ rfl
        have tf5 := HT.out.frozen 5
        go_upto_region 19 with fail
        clear t0 tf0 t1 tf1 t2 tf2 t3 tf3 t4 tf4 t5 tf5
        have HT := Lib.hid (HT.out.set 2 (.int .i64 u))
        have HZ := Lib.hid (HZ.out.other (Nat.ne_of_lt hzt) 2 (.int .i64 u))
        have HC := Lib.hid (Cur.set HC.out htp (i := 2) (v := .int .i64 u))
        have HG := Lib.hid (grown_put HG.out (Nat.le_of_lt hzt) (i := 2) (v := .int .i64 u))
        generalize wu.setCell ⟨b, 2, none⟩ (.int .i64 u) = wv at *
        have z0 : wv.cell? ⟨w.heap.size, 0, none⟩ = some (.int .i64 0) := HZ.out.cell 0 _ rfl
        have zf0 := HZ.out.frozen 0
        have z1 : wv.cell? ⟨w.heap.size, 1, none⟩ = some (.int .i64 0) := HZ.out.cell 1 _ rfl
        have zf1 := HZ.out.frozen 1
        have z2 : wv.cell? ⟨w.heap.size, 2, none⟩ = some (.int .i64 0) := HZ.out.cell 2 _ rfl
        have zf2 := HZ.out.frozen 2
        have z3 : wv.cell? ⟨w.heap.size, 3, none⟩ = some (.int .i64 0) := HZ.out.cell 3 _ rfl
        have zf3 := HZ.out.frozen 3
        have z4 : wv.cell? ⟨w.heap.size, 4, none⟩ = some (.int .i64 0) := HZ.out.cell 4 _ rfl
        have zf4 := HZ.out.frozen 4
        have z5 : wv.cell? ⟨w.heap.size, 5, none⟩ = some (.int .i64 0) := HZ.out.cell 5 _ rfl
        have zf5 := HZ.out.frozen 5
        have t0 : wv.cell? ⟨b, 0, none⟩ = some (.int .i64 i) := HT.out.cell 0 _ rfl
        have tf0 := HT.out.frozen 0
        have t1 : wv.cell? ⟨b, 1, none⟩ = some (.int .i64 1) := HT.out.cell 1 _ rfl
        have tf1 := HT.out.frozen 1
        have t2 : wv.cell? ⟨b, 2, none⟩ = some (.int .i64 u) := HT.out.cell 2 _ rfl
        have tf2 := HT.out.frozen 2
        have t3 : wv.cell? ⟨b, 3, none⟩ = some (.int .i64 y) := HT.out.cell 3 _ rfl
        have tf3 := HT.out.frozen 3
        have t4 : wv.cell? ⟨b, 4, none⟩ = some (.int .i64 c4) := HT.out.cell 4 _ rfl
        have tf4 := HT.out.frozen 4
        have t5 : wv.cell? ⟨b, 5, none⟩ = some (.int .i64 0) := HT.out.cell 5 _ rfl
        have tf5 := HT.out.frozen 5
        have HE := Lib.hid ((((((HZ.out.set 0 (.int .i64 i)).set 1 (.int .i64 1)).set 2 (.int .i64 u)).set 3 (.int .i64 y)).set 4 (.int .i64 c4)).set 5 (.int .i64 0))
        have HCe := Lib.hid (Cur.set (Cur.set (Cur.set (Cur.set (Cur.set (Cur.set HC.out hzp (i := 0) (v := .int .i64 i)) hzp (i := 1) (v := .int .i64 1)) hzp (i := 2) (v := .int .i64 u)) hzp (i := 3) (v := .int .i64 y)) hzp (i := 4) (v := .int .i64 c4)) hzp (i := 5) (v := .int .i64 0))
        have HGe := Lib.hid (grown_put (grown_put (grown_put (grown_put (grown_put (grown_put HG.out (Nat.le_refl _) (i := 0) (v := .int .i64 i)) (Nat.le_refl _) (i := 1) (v := .int .i64 1)) (Nat.le_refl _) (i := 2) (v := .int .i64 u)) (Nat.le_refl _) (i := 3) (v := .int .i64 y)) (Nat.le_refl _) (i := 4) (v := .int .i64 c4)) (Nat.le_refl _) (i := 5) (v := .int .i64 0))
        clear HT HZ HC HG
        go_wp2_with fail
        have hl := HE.out.load Tryd.underlying38 rfl (by kernel_rfl)
        refine bodyPost_ret (v := .agg #[.int .i64 i, .int .i64 1, .int .i64 u, .int .i64 y, .int .i64 c4, .int .i64 0]) ?_ rfl ⟨_, _, _, _, _, _, rfl, HCe.out.more (by omega), HGe.out⟩
        rw [ats.results_cell1 rfl]
        simp [asAddr, Result.andThen, hl]
      have d2 : (k == 2) = false := by simpa using h2
      by_cases h3 : k = 3
      · subst h3
        go_wp2_with fail
        refine (among_new (0) 4 p _ 2 [0, 4] _ wk HC.out (by omega) (by omega) (by omega) rfl rfl (by decide)).mono ?_
        rintro e wu ⟨u, rfl, u0, u1, hc, hg⟩
        have HT := Lib.hid (HT.out.grown hg (Nat.ne_of_gt htp))
        have HZ := Lib.hid (HZ.out.grown hg (Nat.ne_of_gt hzp))
        have HC := Lib.hid hc
        have HG := Lib.hid (grown_trans HG.out hg)
        clear hc hg
        have t0 : wu.cell? ⟨b, 0, none⟩ = some (.int .i64 i) := HT.out.cell 0 _ rfl
        have tf0 := HT.out.frozen 0
        have t1 : wu.cell? ⟨b, 1, none⟩ = some (.int .i64 1) := HT.out.cell 1 _ rfl
        have tf1 := HT.out.frozen 1
        have t2 : wu.cell? ⟨b, 2, none⟩ = some (.int .i64 x) := HT.out.cell 2 _ rfl
        have tf2 := HT.out.frozen 2
        have t3 : wu.cell? ⟨b, 3, none⟩ = some (.int .i64 y) := HT.out.cell 3 _ rfl
        have tf3 := HT.out.frozen 3
        have t4 : wu.cell? ⟨b, 4, none⟩ = some (.int .i64 c4) := HT.out.cell 4 _ rfl
        have tf4 := HT.out.frozen 4
        have t5 : wu.cell? ⟨b, 5, none⟩ = some (.int .i64 0) := HT.out.cell 5 _ rfl
        have tf5 := HT.out.frozen 5
        go_upto_region 19 with fail
        clear t0 tf0 t1 tf1 t2 tf2 t3 tf3 t4 tf4 t5 tf5
        have HT := Lib.hid (HT.out.set 1 (.int .i64 u))
        have HZ := Lib.hid (HZ.out.other (Nat.ne_of_lt hzt) 1 (.int .i64 u))
        have HC := Lib.hid (Cur.set HC.out htp (i := 1) (v := .int .i64 u))
        have HG := Lib.hid (grown_put HG.out (Nat.le_of_lt hzt) (i := 1) (v := .int .i64 u))
        generalize wu.setCell ⟨b, 1, none⟩ (.int .i64 u) = wv at *
        have z0 : wv.cell? ⟨w.heap.size, 0, none⟩ = some (.int .i64 0) := HZ.out.cell 0 _ rfl
        have zf0 := HZ.out.frozen 0
        have z1 : wv.cell? ⟨w.heap.size, 1, none⟩ = some (.int .i64 0) := HZ.out.cell 1 _ rfl
        have zf1 := HZ.out.frozen 1
        have z2 : wv.cell? ⟨w.heap.size, 2, none⟩ = some (.int .i64 0) := HZ.out.cell 2 _ rfl
        have zf2 := HZ.out.frozen 2
        have z3 : wv.cell? ⟨w.heap.size, 3, none⟩ = some (.int .i64 0) := HZ.out.cell 3 _ rfl
        have zf3 := HZ.out.frozen 3
        have z4 : wv.cell? ⟨w.heap.size, 4, none⟩ = some (.int .i64 0) := HZ.out.cell 4 _ rfl
        have zf4 := HZ.out.frozen 4
        have z5 : wv.cell? ⟨w.heap.size, 5, none⟩ = some (.int .i64 0) := HZ.out.cell 5 _ rfl
        have zf5 := HZ.out.frozen 5
        have t0 : wv.cell? ⟨b, 0, none⟩ = some (.int .i64 i) := HT.out.cell 0 _ rfl
        have tf0 := HT.out.frozen 0
        have t1 : wv.cell? ⟨b, 1, none⟩ = some (.int .i64 u) := HT.out.cell 1 _ rfl
        have tf1 := HT.out.frozen 1
        have t2 : wv.cell? ⟨b, 2, none⟩ = some (.int .i64 x) := HT.out.cell 2 _ rfl
        have tf2 := HT.out.frozen 2
        have t3 : wv.cell? ⟨b, 3, none⟩ = some (.int .i64 y) := HT.out.cell 3 _ rfl
        have tf3 := HT.out.frozen 3
        have t4 : wv.cell? ⟨b, 4, none⟩ = some (.int .i64 c4) := HT.out.cell 4 _ rfl
        have tf4 := HT.out.frozen 4
        have t5 : wv.cell? ⟨b, 5, none⟩ = some (.int .i64 0) := HT.out.cell 5 _ rfl
        have tf5 := HT.out.frozen 5
        have HE := Lib.hid ((((((HZ.out.set 0 (.int .i64 i)).set 1 (.int .i64 u)).set 2 (.int .i64 x)).set 3 (.int .i64 y)).set 4 (.int .i64 c4)).set 5 (.int .i64 0))
        have HCe := Lib.hid (Cur.set (Cur.set (Cur.set (Cur.set (Cur.set (Cur.set HC.out hzp (i := 0) (v := .int .i64 i)) hzp (i := 1) (v := .int .i64 u)) hzp (i := 2) (v := .int .i64 x)) hzp (i := 3) (v := .int .i64 y)) hzp (i := 4) (v := .int .i64 c4)) hzp (i := 5) (v := .int .i64 0))
        have HGe := Lib.hid (grown_put (grown_put (grown_put (grown_put (grown_put (grown_put HG.out (Nat.le_refl _) (i := 0) (v := .int .i64 i)) (Nat.le_refl _) (i := 1) (v := .int .i64 u)) (Nat.le_refl _) (i := 2) (v := .int .i64 x)) (Nat.le_refl _) (i := 3) (v := .int .i64 y)) (Nat.le_refl _) (i := 4) (v := .int .i64 c4)) (Nat.le_refl _) (i := 5) (v := .int .i64 0))
        clear HT HZ HC HG
        go_wp2_with fail
        have hl := HE.out.load Tryd.underlying38 rfl (by kernel_rfl)
        refine bodyPost_ret (v := .agg #[.int .i64 i, .int .i64 u, .int .i64 x, .int .i64 y, .int .i64 c4, .int .i64 0]) ?_ rfl ⟨_, _, _, _, _, _, rfl, HCe.out.more (by omega), HGe.out⟩
        rw [ats.results_cell1 rfl]
        simp [asAddr, Result.andThen, hl]
      have d3 : (k == 3) = false := by simpa using h3
      have z0 : wk.cell? ⟨w.heap.size, 0, none⟩ = some (.int .i64 0) := HZ.out.cell 0 _ rfl
      have zf0 := HZ.out.frozen 0
      have z1 : wk.cell? ⟨w.heap.size, 1, none⟩ = some (.int .i64 0) := HZ.out.cell 1 _ rfl
      have zf1 := HZ.out.frozen 1
      have z2 : wk.cell? ⟨w.heap.size, 2, none⟩ = some (.int .i64 0) := HZ.out.cell 2 _ rfl
      have zf2 := HZ.out.frozen 2
      have z3 : wk.cell? ⟨w.heap.size, 3, none⟩ = some (.int .i64 0) := HZ.out.cell 3 _ rfl
      have zf3 := HZ.out.frozen 3
      have z4 : wk.cell? ⟨w.heap.size, 4, none⟩ = some (.int .i64 0) := HZ.out.cell 4 _ rfl
      have zf4 := HZ.out.frozen 4
      have z5 : wk.cell? ⟨w.heap.size, 5, none⟩ = some (.int .i64 0) := HZ.out.cell 5 _ rfl
      have zf5 := HZ.out.frozen 5
      have t0 : wk.cell? ⟨b, 0, none⟩ = some (.int .i64 i) := HT.out.cell 0 _ rfl
      have tf0 := HT.out.frozen 0
      have t1 : wk.cell? ⟨b, 1, none⟩ = some (.int .i64 1) := HT.out.cell 1 _ rfl
      have tf1 := HT.out.frozen 1
      have t2 : wk.cell? ⟨b, 2, none⟩ = some (.int .i64 x) := HT.out.cell 2 _ rfl
      have tf2 := HT.out.frozen 2
      have t3 : wk.cell? ⟨b, 3, none⟩ = some (.int .i64 y) := HT.out.cell 3 _ rfl
      have tf3 := HT.out.frozen 3
      have t4 : wk.cell? ⟨b, 4, none⟩ = some (.int .i64 c4) := HT.out.cell 4 _ rfl
      have tf4 := HT.out.frozen 4
      have t5 : wk.cell? ⟨b, 5, none⟩ = some (.int .i64 0) := HT.out.cell 5 _ rfl
      have tf5 := HT.out.frozen 5
      have HE := Lib.hid ((((((HZ.out.set 0 (.int .i64 i)).set 1 (.int .i64 1)).set 2 (.int .i64 x)).set 3 (.int .i64 y)).set 4 (.int .i64 c4)).set 5 (.int .i64 0))
      have HCe := Lib.hid (Cur.set (Cur.set (Cur.set (Cur.set (Cur.set (Cur.set HC.out hzp (i := 0) (v := .int .i64 i)) hzp (i := 1) (v := .int .i64 1)) hzp (i := 2) (v := .int .i64 x)) hzp (i := 3) (v := .int .i64 y)) hzp (i := 4) (v := .int .i64 c4)) hzp (i := 5) (v := .int .i64 0))
      have HGe := Lib.hid (grown_put (grown_put (grown_put (grown_put (grown_put (grown_put HG.out (Nat.le_refl _) (i := 0) (v := .int .i64 i)) (Nat.le_refl _) (i := 1) (v := .int .i64 1)) (Nat.le_refl _) (i := 2) (v := .int .i64 x)) (Nat.le_refl _) (i := 3) (v := .int .i64 y)) (Nat.le_refl _) (i := 4) (v := .int .i64 c4)) (Nat.le_refl _) (i := 5) (v := .int .i64 0))
      clear HT HZ HC HG
      go_wp2_with fail
      have hl := HE.out.load Tryd.underlying38 rfl (by kernel_rfl)
      refine bodyPost_ret (v := .agg #[.int .i64 i, .int .i64 1, .int .i64 x, .int .i64 y, .int .i64 c4, .int .i64 0]) ?_ rfl ⟨_, _, _, _, _, _, rfl, HCe.out.more (by omega), HGe.out⟩
      rw [ats.results_cell1 rfl]
      simp [asAddr, Result.andThen, hl]
    have e_1 : (s == 1) = false := by simpa using g1
    by_cases g2 : s = 2
    · subst g2
      go_wp2_with fail
      refine (pick p _ 9 wc HC.out (by omega) (by omega) (by omega)).mono ?_
      rintro e wr ⟨r, rfl, r0, r1, hc, hg⟩
      clear t0 tf0 t1 tf1 t2 tf2 t3 tf3 t4 tf4 t5 tf5
      have HT := Lib.hid (HT.out.grown hg (Nat.ne_of_gt htp))
      have HZ := Lib.hid (HZ.out.grown hg (Nat.ne_of_gt hzp))
      have HC := Lib.hid hc
      have HG := Lib.hid (grown_trans HG.out hg)
      clear hc hg
      have e1 : IntKind.i64.wrap (3 + r) = 3 + r := IntWalk.i64_in _ (by omega)
      have t0 : wr.cell? ⟨b, 0, none⟩ = some (.int .i64 i) := HT.out.cell 0 _ rfl
      have tf0 := HT.out.frozen 0
      have t1 : wr.cell? ⟨b, 1, none⟩ = some (.int .i64 2) := HT.out.cell 1 _ rfl
      have tf1 := HT.out.frozen 1
      have t2 : wr.cell? ⟨b, 2, none⟩ = some (.int .i64 x) := HT.out.cell 2 _ rfl
      have tf2 := HT.out.frozen 2
      have t3 : wr.cell? ⟨b, 3, none⟩ = some (.int .i64 y) := HT.out.cell 3 _ rfl
      have tf3 := HT.out.frozen 3
      have t4 : wr.cell? ⟨b, 4, none⟩ = some (.int .i64 0) := HT.out.cell 4 _ rfl
      have tf4 := HT.out.frozen 4
      have t5 : wr.cell? ⟨b, 5, none⟩ = some (.int .i64 0) := HT.out.cell 5 _ rfl
      have tf5 := HT.out.frozen 5
      go_upto_region 10 with fail
      clear t0 tf0 t1 tf1 t2 tf2 t3 tf3 t4 tf4 t5 tf5
      have HT := Lib.hid (HT.out.set 4 (.int .i64 (3 + r)))
      have HZ := Lib.hid (HZ.out.other (Nat.ne_of_lt hzt) 4 (.int .i64 (3 + r)))
      have HC := Lib.hid (Cur.set HC.out htp (i := 4) (v := .int .i64 (3 + r)))
      have HG := Lib.hid (grown_put HG.out (Nat.le_of_lt hzt) (i := 4) (v := .int .i64 (3 + r)))
      generalize wr.setCell ⟨b, 4, none⟩ (.int .i64 (3 + r)) = wrv at *
      generalize 3 + r = c4 at *
      clear e1 r0 r1
      have t0 : wrv.cell? ⟨b, 0, none⟩ = some (.int .i64 i) := HT.out.cell 0 _ rfl
      have tf0 := HT.out.frozen 0
      have t1 : wrv.cell? ⟨b, 1, none⟩ = some (.int .i64 2) := HT.out.cell 1 _ rfl
      have tf1 := HT.out.frozen 1
      have t2 : wrv.cell? ⟨b, 2, none⟩ = some (.int .i64 x) := HT.out.cell 2 _ rfl
      have tf2 := HT.out.frozen 2
      have t3 : wrv.cell? ⟨b, 3, none⟩ = some (.int .i64 y) := HT.out.cell 3 _ rfl
      have tf3 := HT.out.frozen 3
      have t4 : wrv.cell? ⟨b, 4, none⟩ = some (.int .i64 c4) := HT.out.cell 4 _ rfl
      have tf4 := HT.out.frozen 4
      have t5 : wrv.cell? ⟨b, 5, none⟩ = some (.int .i64 0) := HT.out.cell 5 _ rfl
      have tf5 := HT.out.frozen 5
      go_upto_region 10 with fail
      clear t0 tf0 t1 tf1 t2 tf2 t3 tf3 t4 tf4 t5 tf5
      go_wp2_with fail
      refine (pick p _ 24 wrv HC.out (by omega) (by omega) (by omega)).mono ?_
      rintro e wk ⟨k, rfl, k0, k1, hc, hg⟩
      have HT := Lib.hid (HT.out.grown hg (Nat.ne_of_gt htp))
      have HZ := Lib.hid (HZ.out.grown hg (Nat.ne_of_gt hzp))
      have HC := Lib.hid hc
      have HG := Lib.hid (grown_trans HG.out hg)
      clear hc hg
      by_cases h0 : k = 0
      · subst h0
        go_wp2_with fail
        refine (among_new (0) 10000 p _ 5 [0, 2, 3, 9999, 10000] _ wk HC.out (by omega) (by omega) (by omega) rfl rfl (by decide)).mono ?_
        rintro e wu ⟨u, rfl, u0, u1, hc, hg⟩
        have HT := Lib.hid (HT.out.grown hg (Nat.ne_of_gt htp))
        have HZ := Lib.hid (HZ.out.grown hg (Nat.ne_of_gt hzp))
        have HC := Lib.hid hc
        have HG := Lib.hid (grown_trans HG.out hg)
        clear hc hg
        have t0 : wu.cell? ⟨b, 0, none⟩ = some (.int .i64 i) := HT.out.cell 0 _ rfl
        have tf0 := HT.out.frozen 0
        have t1 : wu.cell? ⟨b, 1, none⟩ = some (.int .i64 2) := HT.out.cell 1 _ rfl
        have tf1 := HT.out.frozen 1
        have t2 : wu.cell? ⟨b, 2, none⟩ = some (.int .i64 x) := HT.out.cell 2 _ rfl
        have tf2 := HT.out.frozen 2
        have t3 : wu.cell? ⟨b, 3, none⟩ = some (.int .i64 y) := HT.out.cell 3 _ rfl
        have tf3 := HT.out.frozen 3
        have t4 : wu.cell? ⟨b, 4, none⟩ = some (.int .i64 c4) := HT.out.cell 4 _ rfl
        have tf4 := HT.out.frozen 4
        have t5 : wu.cell? ⟨b, 5, none⟩ = some (.int .i64 0) := HT.out.cell 5 _ rfl
        have tf5 := HT.out.frozen 5
        go_upto_region 19 with fail
        clear t0 tf0 t1 tf1 t2 tf2 t3 tf3 t4 tf4 t5 tf5
        have HT := Lib.hid (HT.out.set 4 (.int .i64 u))
        have HZ := Lib.hid (HZ.out.other (Nat.ne_of_lt hzt) 4 (.int .i64 u))
        have HC := Lib.hid (Cur.set HC.out htp (i := 4) (v := .int .i64 u))
        have HG := Lib.hid (grown_put HG.out (Nat.le_of_lt hzt) (i := 4) (v := .int .i64 u))
        generalize wu.setCell ⟨b, 4, none⟩ (.int .i64 u) = wv at *
        have z0 : wv.cell? ⟨w.heap.size, 0, none⟩ = some (.int .i64 0) := HZ.out.cell 0 _ rfl
        have zf0 := HZ.out.frozen 0
        have z1 : wv.cell? ⟨w.heap.size, 1, none⟩ = some (.int .i64 0) := HZ.out.cell 1 _ rfl
        have zf1 := HZ.out.frozen 1
        have z2 : wv.cell? ⟨w.heap.size, 2, none⟩ = some (.int .i64 0) := HZ.out.cell 2 _ rfl
        have zf2 := HZ.out.frozen 2
        have z3 : wv.cell? ⟨w.heap.size, 3, none⟩ = some (.int .i64 0) := HZ.out.cell 3 _ rfl
        have zf3 := HZ.out.frozen 3
        have z4 : wv.cell? ⟨w.heap.size, 4, none⟩ = some (.int .i64 0) := HZ.out.cell 4 _ rfl
        have zf4 := HZ.out.frozen 4
        have z5 : wv.cell? ⟨w.heap.size, 5, none⟩ = some (.int .i64 0) := HZ.out.cell 5 _ rfl
        have zf5 := HZ.out.frozen 5
        have t0 : wv.cell? ⟨b, 0, none⟩ = some (.int .i64 i) := HT.out.cell 0 _ rfl
        have tf0 := HT.out.frozen 0
        have t1 : wv.cell? ⟨b, 1, none⟩ = some (.int .i64 2) := HT.out.cell 1 _ rfl
        have tf1 := HT.out.frozen 1
        have t2 : wv.cell? ⟨b, 2, none⟩ = some (.int .i64 x) := HT.out.cell 2 _ rfl
        have tf2 := HT.out.frozen 2
        have t3 : wv.cell? ⟨b, 3, none⟩ = some (.int .i64 y) := HT.out.cell 3 _ rfl
        have tf3 := HT.out.frozen 3
        have t4 : wv.cell? ⟨b, 4, none⟩ = some (.int .i64 u) := HT.out.cell 4 _ rfl
        have tf4 := HT.out.frozen 4
        have t5 : wv.cell? ⟨b, 5, none⟩ = some (.int .i64 0) := HT.out.cell 5 _ rfl
        have tf5 := HT.out.frozen 5
        have HE := Lib.hid ((((((HZ.out.set 0 (.int .i64 i)).set 1 (.int .i64 2)).set 2 (.int .i64 x)).set 3 (.int .i64 y)).set 4 (.int .i64 u)).set 5 (.int .i64 0))
        have HCe := Lib.hid (Cur.set (Cur.set (Cur.set (Cur.set (Cur.set (Cur.set HC.out hzp (i := 0) (v := .int .i64 i)) hzp (i := 1) (v := .int .i64 2)) hzp (i := 2) (v := .int .i64 x)) hzp (i := 3) (v := .int .i64 y)) hzp (i := 4) (v := .int .i64 u)) hzp (i := 5) (v := .int .i64 0))
        have HGe := Lib.hid (grown_put (grown_put (grown_put (grown_put (grown_put (grown_put HG.out (Nat.le_refl _) (i := 0) (v := .int .i64 i)) (Nat.le_refl _) (i := 1) (v := .int .i64 2)) (Nat.le_refl _) (i := 2) (v := .int .i64 x)) (Nat.le_refl _) (i := 3) (v := .int .i64 y)) (Nat.le_refl _) (i := 4) (v := .int .i64 u)) (Nat.le_refl _) (i := 5) (v := .int .i64 0))
        clear HT HZ HC HG
        go_wp2_with fail
        have hl := HE.out.load Tryd.underlying38 rfl (by kernel_rfl)
        refine bodyPost_ret (v := .agg #[.int .i64 i, .int .i64 2, .int .i64 x, .int .i64 y, .int .i64 u, .int .i64 0]) ?_ rfl ⟨_, _, _, _, _, _, rfl, HCe.out.more (by omega), HGe.out⟩
        rw [ats.results_cell1 rfl]
        simp [asAddr, Result.andThen, hl]
      have d0 : (k == 0) = false := by simpa using h0
      by_cases h1 : k = 1
      · subst h1
        go_wp2_with fail
        refine (among_new (-1) 4 p _ 4 [0, 1, 4, -1] _ wk HC.out (by omega) (by omega) (by omega) rfl rfl (by decide)).mono ?_
        rintro e wu ⟨u, rfl, u0, u1, hc, hg⟩
        have HT := Lib.hid (HT.out.grown hg (Nat.ne_of_gt htp))
        have HZ := Lib.hid (HZ.out.grown hg (Nat.ne_of_gt hzp))
        have HC := Lib.hid hc
        have HG := Lib.hid (grown_trans HG.out hg)
        clear hc hg
        have t0 : wu.cell? ⟨b, 0, none⟩ = some (.int .i64 i) := HT.out.cell 0 _ rfl
        have tf0 := HT.out.frozen 0
        have t1 : wu.cell? ⟨b, 1, none⟩ = some (.int .i64 2) := HT.out.cell 1 _ rfl
        have tf1 := HT.out.frozen 1
        have t2 : wu.cell? ⟨b, 2, none⟩ = some (.int .i64 x) := HT.out.cell 2 _ rfl
        have tf2 := HT.out.frozen 2
        have t3 : wu.cell? ⟨b, 3, none⟩ = some (.int .i64 y) := HT.out.cell 3 _ rfl
        have tf3 := HT.out.frozen 3
        have t4 : wu.cell? ⟨b, 4, none⟩ = some (.int .i64 c4) := HT.out.cell 4 _ rfl
        have tf4 := HT.out.frozen 4
        have t5 : wu.cell? ⟨b, 5, none⟩ = some (.int .i64 0) := HT.out.cell 5 _ rfl
        have tf5 := HT.out.frozen 5
        go_upto_region 19 with fail
        clear t0 tf0 t1 tf1 t2 tf2 t3 tf3 t4 tf4 t5 tf5
        have HT := Lib.hid (HT.out.set 5 (.int .i64 u))
        have HZ := Lib.hid (HZ.out.other (Nat.ne_of_lt hzt) 5 (.int .i64 u))
        have HC := Lib.hid (Cur.set HC.out htp (i := 5) (v := .int .i64 u))
        have HG := Lib.hid (grown_put HG.out (Nat.le_of_lt hzt) (i := 5) (v := .int .i64 u))
        generalize wu.setCell ⟨b, 5, none⟩ (.int .i64 u) = wv at *
        have z0 : wv.cell? ⟨w.heap.size, 0, none⟩ = some (.int .i64 0) := HZ.out.cell 0 _ rfl
        have zf0 := HZ.out.frozen 0
        have z1 : wv.cell? ⟨w.heap.size, 1, none⟩ = some (.int .i64 0) := HZ.out.cell 1 _ rfl
        have zf1 := HZ.out.frozen 1
        have z2 : wv.cell? ⟨w.heap.size, 2, none⟩ = some (.int .i64 0) := HZ.out.cell 2 _ rfl
        have zf2 := HZ.out.frozen 2
        have z3 : wv.cell? ⟨w.heap.size, 3, none⟩ = some (.int .i64 0) := HZ.out.cell 3 _ rfl
        have zf3 := HZ.out.frozen 3
        have z4 : wv.cell? ⟨w.heap.size, 4, none⟩ = some (.int .i64 0) := HZ.out.cell 4 _ rfl
        have zf4 := HZ.out.frozen 4
        have z5 : wv.cell? ⟨w.heap.size, 5, none⟩ = some (.int .i64 0) := HZ.out.cell 5 _ rfl
        have zf5 := HZ.out.frozen 5
        have t0 : wv.cell? ⟨b, 0, none⟩ = some (.int .i64 i) := HT.out.cell 0 _ rfl
        have tf0 := HT.out.frozen 0
        have t1 : wv.cell? ⟨b, 1, none⟩ = some (.int .i64 2) := HT.out.cell 1 _ rfl
        have tf1 := HT.out.frozen 1
        have t2 : wv.cell? ⟨b, 2, none⟩ = some (.int .i64 x) := HT.out.cell 2 _ rfl
        have tf2 := HT.out.frozen 2
        have t3 : wv.cell? ⟨b, 3, none⟩ = some (.int .i64 y) := HT.out.cell 3 _ rfl
        have tf3 := HT.out.frozen 3
        have t4 : wv.cell? ⟨b, 4, none⟩ = some (.int .i64 c4) := HT.out.cell 4 _ rfl
        have tf4 := HT.out.frozen 4
        have t5 : wv.cell? ⟨b, 5, none⟩ = some (.int .i64 u) := HT.out.cell 5 _ rfl
        have tf5 := HT.out.frozen 5
        have HE := Lib.hid ((((((HZ.out.set 0 (.int .i64 i)).set 1 (.int .i64 2)).set 2 (.int .i64 x)).set 3 (.int .i64 y)).set 4 (.int .i64 c4)).set 5 (.int .i64 u))
        have HCe := Lib.hid (Cur.set (Cur.set (Cur.set (Cur.set (Cur.set (Cur.set HC.out hzp (i := 0) (v := .int .i64 i)) hzp (i := 1) (v := .int .i64 2)) hzp (i := 2) (v := .int .i64 x)) hzp (i := 3) (v := .int .i64 y)) hzp (i := 4) (v := .int .i64 c4)) hzp (i := 5) (v := .int .i64 u))
        have HGe := Lib.hid (grown_put (grown_put (grown_put (grown_put (grown_put (grown_put HG.out (Nat.le_refl _) (i := 0) (v := .int .i64 i)) (Nat.le_refl _) (i := 1) (v := .int .i64 2)) (Nat.le_refl _) (i := 2) (v := .int .i64 x)) (Nat.le_refl _) (i := 3) (v := .int .i64 y)) (Nat.le_refl _) (i := 4) (v := .int .i64 c4)) (Nat.le_refl _) (i := 5) (v := .int .i64 u))
        clear HT HZ HC HG
        go_wp2_with fail
        have hl := HE.out.load Tryd.underlying38 rfl (by kernel_rfl)
        refine bodyPost_ret (v := .agg #[.int .i64 i, .int .i64 2, .int .i64 x, .int .i64 y, .int .i64 c4, .int .i64 u]) ?_ rfl ⟨_, _, _, _, _, _, rfl, HCe.out.more (by omega), HGe.out⟩
        rw [ats.results_cell1 rfl]
        simp [asAddr, Result.andThen, hl]
      have d1 : (k == 1) = false := by simpa using h1
      by_cases h2 : k = 2
      · subst h2
        go_wp2_with fail
        refine (among_new (-1) 9900 p _ 3 [-1, 9900, 9899] _ wk HC.out (by omega) (by omega) (by omega) rfl rfl (by decide)).mono ?_
        rintro e wu ⟨u, rfl, u0, u1, hc, hg⟩
        have HT := Lib.hid (HT.out.grown hg (Nat.ne_of_gt htp))
        have HZ := Lib.hid (HZ.out.grown hg (Nat.ne_of_gt hzp))
        have HC := Lib.hid hc
        have HG := Lib.hid (grown_trans HG.out hg)
        clear hc hg
        have t0 : wu.cell? ⟨b, 0, none⟩ = some (.int .i64 i) := HT.out.cell 0 _ rfl
        have tf0 := HT.out.frozen 0
        have t1 : wu.cell? ⟨b, 1, none⟩ = some (.int .i64 2) := HT.out.cell 1 _ rfl
        have tf1 := HT.out.frozen 1
        have t2 : wu.cell? ⟨b, 2, none⟩ = some (.int .i64 x) := HT.out.cell 2 _ rfl
        have tf2 := HT.out.frozen 2
        have t3 : wu.cell? ⟨b, 3, none⟩ = some (.int .i64 y) := HT.out.cell 3 _ rfl
        have tf3 := HT.out.frozen 3
        have t4 : wu.cell? ⟨b, 4, none⟩ = some (.int .i64 c4) := HT.out.cell 4 _ rfl
        have tf4 := HT.out.frozen 4
        have t5 : wu.cell? ⟨b, 5, none⟩ = some (.int .i64 0) := HT.out.cell 5 _ rfl
        have tf5 := HT.out.frozen 5
        go_upto_region 19 with fail
        clear t0 tf0 t1 tf1 t2 tf2 t3 tf3 t4 tf4 t5 tf5
        have HT := Lib.hid (HT.out.set 2 (.int .i64 u))
        have HZ := Lib.hid (HZ.out.other (Nat.ne_of_lt hzt) 2 (.int .i64 u))
        have HC := Lib.hid (Cur.set HC.out htp (i := 2) (v := .int .i64 u))
        have HG := Lib.hid (grown_put HG.out (Nat.le_of_lt hzt) (i := 2) (v := .int .i64 u))
        generalize wu.setCell ⟨b, 2, none⟩ (.int .i64 u) = wv at *
        have z0 : wv.cell? ⟨w.heap.size, 0, none⟩ = some (.int .i64 0) := HZ.out.cell 0 _ rfl
        have zf0 := HZ.out.frozen 0
        have z1 : wv.cell? ⟨w.heap.size, 1, none⟩ = some (.int .i64 0) := HZ.out.cell 1 _ rfl
        have zf1 := HZ.out.frozen 1
        have z2 : wv.cell? ⟨w.heap.size, 2, none⟩ = some (.int .i64 0) := HZ.out.cell 2 _ rfl
        have zf2 := HZ.out.frozen 2
        have z3 : wv.cell? ⟨w.heap.size, 3, none⟩ = some (.int .i64 0) := HZ.out.cell 3 _ rfl
        have zf3 := HZ.out.frozen 3
        have z4 : wv.cell? ⟨w.heap.size, 4, none⟩ = some (.int .i64 0) := HZ.out.cell 4 _ rfl
        have zf4 := HZ.out.frozen 4
        have z5 : wv.cell? ⟨w.heap.size, 5, none⟩ = some (.int .i64 0) := HZ.out.cell 5 _ rfl
        have zf5 := HZ.out.frozen 5
        have t0 : wv.cell? ⟨b, 0, none⟩ = some (.int .i64 i) := HT.out.cell 0 _ rfl
        have tf0 := HT.out.frozen 0
        have t1 : wv.cell? ⟨b, 1, none⟩ = some (.int .i64 2) := HT.out.cell 1 _ rfl
        have tf1 := HT.out.frozen 1
        have t2 : wv.cell? ⟨b, 2, none⟩ = some (.int .i64 u) := HT.out.cell 2 _ rfl
        have tf2 := HT.out.frozen 2
        have t3 : wv.cell? ⟨b, 3, none⟩ = some (.int .i64 y) := HT.out.cell 3 _ rfl
        have tf3 := HT.out.frozen 3
        have t4 : wv.cell? ⟨b, 4, none⟩ = some (.int .i64 c4) := HT.out.cell 4 _ rfl
        have tf4 := HT.out.frozen 4
        have t5 : wv.cell? ⟨b, 5, none⟩ = some (.int .i64 0) := HT.out.cell 5 _ rfl
        have tf5 := HT.out.frozen 5
        have HE := Lib.hid ((((((HZ.out.set 0 (.int .i64 i)).set 1 (.int .i64 2)).set 2 (.int .i64 u)).set 3 (.int .i64 y)).set 4 (.int .i64 c4)).set 5 (.int .i64 0))
        have HCe := Lib.hid (Cur.set (Cur.set (Cur.set (Cur.set (Cur.set (Cur.set HC.out hzp (i := 0) (v := .int .i64 i)) hzp (i := 1) (v := .int .i64 2)) hzp (i := 2) (v := .int .i64 u)) hzp (i := 3) (v := .int .i64 y)) hzp (i := 4) (v := .int .i64 c4)) hzp (i := 5) (v := .int .i64 0))
        have HGe := Lib.hid (grown_put (grown_put (grown_put (grown_put (grown_put (grown_put HG.out (Nat.le_refl _) (i := 0) (v := .int .i64 i)) (Nat.le_refl _) (i := 1) (v := .int .i64 2)) (Nat.le_refl _) (i := 2) (v := .int .i64 u)) (Nat.le_refl _) (i := 3) (v := .int .i64 y)) (Nat.le_refl _) (i := 4) (v := .int .i64 c4)) (Nat.le_refl _) (i := 5) (v := .int .i64 0))
        clear HT HZ HC HG
        go_wp2_with fail
        have hl := HE.out.load Tryd.underlying38 rfl (by kernel_rfl)
        refine bodyPost_ret (v := .agg #[.int .i64 i, .int .i64 2, .int .i64 u, .int .i64 y, .int .i64 c4, .int .i64 0]) ?_ rfl ⟨_, _, _, _, _, _, rfl, HCe.out.more (by omega), HGe.out⟩
        rw [ats.results_cell1 rfl]
        simp [asAddr, Result.andThen, hl]
      have d2 : (k == 2) = false := by simpa using h2
      by_cases h3 : k = 3
      · subst h3
        go_wp2_with fail
        refine (among_new (0) 4 p _ 2 [0, 4] _ wk HC.out (by omega) (by omega) (by omega) rfl rfl (by decide)).mono ?_
        rintro e wu ⟨u, rfl, u0, u1, hc, hg⟩
        have HT := Lib.hid (HT.out.grown hg (Nat.ne_of_gt htp))
        have HZ := Lib.hid (HZ.out.grown hg (Nat.ne_of_gt hzp))
        have HC := Lib.hid hc
        have HG := Lib.hid (grown_trans HG.out hg)
        clear hc hg
        have t0 : wu.cell? ⟨b, 0, none⟩ = some (.int .i64 i) := HT.out.cell 0 _ rfl
        have tf0 := HT.out.frozen 0
        have t1 : wu.cell? ⟨b, 1, none⟩ = some (.int .i64 2) := HT.out.cell 1 _ rfl
        have tf1 := HT.out.frozen 1
        have t2 : wu.cell? ⟨b, 2, none⟩ = some (.int .i64 x) := HT.out.cell 2 _ rfl
        have tf2 := HT.out.frozen 2
        have t3 : wu.cell? ⟨b, 3, none⟩ = some (.int .i64 y) := HT.out.cell 3 _ rfl
        have tf3 := HT.out.frozen 3
        have t4 : wu.cell? ⟨b, 4, none⟩ = some (.int .i64 c4) := HT.out.cell 4 _ rfl
        have tf4 := HT.out.frozen 4
        have t5 : wu.cell? ⟨b, 5, none⟩ = some (.int .i64 0) := HT.out.cell 5 _ rfl
        have tf5 := HT.out.frozen 5
        go_upto_region 19 with fail
        clear t0 tf0 t1 tf1 t2 tf2 t3 tf3 t4 tf4 t5 tf5
        have HT := Lib.hid (HT.out.set 1 (.int .i64 u))
        have HZ := Lib.hid (HZ.out.other (Nat.ne_of_lt hzt) 1 (.int .i64 u))
        have HC := Lib.hid (Cur.set HC.out htp (i := 1) (v := .int .i64 u))
        have HG := Lib.hid (grown_put HG.out (Nat.le_of_lt hzt) (i := 1) (v := .int .i64 u))
        generalize wu.setCell ⟨b, 1, none⟩ (.int .i64 u) = wv at *
        have z0 : wv.cell? ⟨w.heap.size, 0, none⟩ = some (.int .i64 0) := HZ.out.cell 0 _ rfl
        have zf0 := HZ.out.frozen 0
        have z1 : wv.cell? ⟨w.heap.size, 1, none⟩ = some (.int .i64 0) := HZ.out.cell 1 _ rfl
        have zf1 := HZ.out.frozen 1
        have z2 : wv.cell? ⟨w.heap.size, 2, none⟩ = some (.int .i64 0) := HZ.out.cell 2 _ rfl
        have zf2 := HZ.out.frozen 2
        have z3 : wv.cell? ⟨w.heap.size, 3, none⟩ = some (.int .i64 0) := HZ.out.cell 3 _ rfl
        have zf3 := HZ.out.frozen 3
        have z4 : wv.cell? ⟨w.heap.size, 4, none⟩ = some (.int .i64 0) := HZ.out.cell 4 _ rfl
        have zf4 := HZ.out.frozen 4
        have z5 : wv.cell? ⟨w.heap.size, 5, none⟩ = some (.int .i64 0) := HZ.out.cell 5 _ rfl
        have zf5 := HZ.out.frozen 5
        have t0 : wv.cell? ⟨b, 0, none⟩ = some (.int .i64 i) := HT.out.cell 0 _ rfl
        have tf0 := HT.out.frozen 0
        have t1 : wv.cell? ⟨b, 1, none⟩ = some (.int .i64 u) := HT.out.cell 1 _ rfl
        have tf1 := HT.out.frozen 1
        have t2 : wv.cell? ⟨b, 2, none⟩ = some (.int .i64 x) := HT.out.cell 2 _ rfl
        have tf2 := HT.out.frozen 2
        have t3 : wv.cell? ⟨b, 3, none⟩ = some (.int .i64 y) := HT.out.cell 3 _ rfl
        have tf3 := HT.out.frozen 3
        have t4 : wv.cell? ⟨b, 4, none⟩ = some (.int .i64 c4) := HT.out.cell 4 _ rfl
        have tf4 := HT.out.frozen 4
        have t5 : wv.cell? ⟨b, 5, none⟩ = some (.int .i64 0) := HT.out.cell 5 _ rfl
        have tf5 := HT.out.frozen 5
        have HE := Lib.hid ((((((HZ.out.set 0 (.int .i64 i)).set 1 (.int .i64 u)).set 2 (.int .i64 x)).set 3 (.int .i64 y)).set 4 (.int .i64 c4)).set 5 (.int .i64 0))
        have HCe := Lib.hid (Cur.set (Cur.set (Cur.set (Cur.set (Cur.set (Cur.set HC.out hzp (i := 0) (v := .int .i64 i)) hzp (i := 1) (v := .int .i64 u)) hzp (i := 2) (v := .int .i64 x)) hzp (i := 3) (v := .int .i64 y)) hzp (i := 4) (v := .int .i64 c4)) hzp (i := 5) (v := .int .i64 0))
        have HGe := Lib.hid (grown_put (grown_put (grown_put (grown_put (grown_put (grown_put HG.out (Nat.le_refl _) (i := 0) (v := .int .i64 i)) (Nat.le_refl _) (i := 1) (v := .int .i64 u)) (Nat.le_refl _) (i := 2) (v := .int .i64 x)) (Nat.le_refl _) (i := 3) (v := .int .i64 y)) (Nat.le_refl _) (i := 4) (v := .int .i64 c4)) (Nat.le_refl _) (i := 5) (v := .int .i64 0))
        clear HT HZ HC HG
        go_wp2_with fail
        have hl := HE.out.load Tryd.underlying38 rfl (by kernel_rfl)
        refine bodyPost_ret (v := .agg #[.int .i64 i, .int .i64 u, .int .i64 x, .int .i64 y, .int .i64 c4, .int .i64 0]) ?_ rfl ⟨_, _, _, _, _, _, rfl, HCe.out.more (by omega), HGe.out⟩
        rw [ats.results_cell1 rfl]
        simp [asAddr, Result.andThen, hl]
      have d3 : (k == 3) = false := by simpa using h3
      have z0 : wk.cell? ⟨w.heap.size, 0, none⟩ = some (.int .i64 0) := HZ.out.cell 0 _ rfl
      have zf0 := HZ.out.frozen 0
      have z1 : wk.cell? ⟨w.heap.size, 1, none⟩ = some (.int .i64 0) := HZ.out.cell 1 _ rfl
      have zf1 := HZ.out.frozen 1
      have z2 : wk.cell? ⟨w.heap.size, 2, none⟩ = some (.int .i64 0) := HZ.out.cell 2 _ rfl
      have zf2 := HZ.out.frozen 2
      have z3 : wk.cell? ⟨w.heap.size, 3, none⟩ = some (.int .i64 0) := HZ.out.cell 3 _ rfl
      have zf3 := HZ.out.frozen 3
      have z4 : wk.cell? ⟨w.heap.size, 4, none⟩ = some (.int .i64 0) := HZ.out.cell 4 _ rfl
      have zf4 := HZ.out.frozen 4
      have z5 : wk.cell? ⟨w.heap.size, 5, none⟩ = some (.int .i64 0) := HZ.out.cell 5 _ rfl
      have zf5 := HZ.out.frozen 5
      have t0 : wk.cell? ⟨b, 0, none⟩ = some (.int .i64 i) := HT.out.cell 0 _ rfl
      have tf0 := HT.out.frozen 0
      have t1 : wk.cell? ⟨b, 1, none⟩ = some (.int .i64 2) := HT.out.cell 1 _ rfl
      have tf1 := HT.out.frozen 1
      have t2 : wk.cell? ⟨b, 2, none⟩ = some (.int .i64 x) := HT.out.cell 2 _ rfl
      have tf2 := HT.out.frozen 2
      have t3 : wk.cell? ⟨b, 3, none⟩ = some (.int .i64 y) := HT.out.cell 3 _ rfl
      have tf3 := HT.out.frozen 3
      have t4 : wk.cell? ⟨b, 4, none⟩ = some (.int .i64 c4) := HT.out.cell 4 _ rfl
      have tf4 := HT.out.frozen 4
      have t5 : wk.cell? ⟨b, 5, none⟩ = some (.int .i64 0) := HT.out.cell 5 _ rfl
      have tf5 := HT.out.frozen 5
      have HE := Lib.hid ((((((HZ.out.set 0 (.int .i64 i)).set 1 (.int .i64 2)).set 2 (.int .i64 x)).set 3 (.int .i64 y)).set 4 (.int .i64 c4)).set 5 (.int .i64 0))
      have HCe := Lib.hid (Cur.set (Cur.set (Cur.set (Cur.set (Cur.set (Cur.set HC.out hzp (i := 0) (v := .int .i64 i)) hzp (i := 1) (v := .int .i64 2)) hzp (i := 2) (v := .int .i64 x)) hzp (i := 3) (v := .int .i64 y)) hzp (i := 4) (v := .int .i64 c4)) hzp (i := 5) (v := .int .i64 0))
      have HGe := Lib.hid (grown_put (grown_put (grown_put (grown_put (grown_put (grown_put HG.out (Nat.le_refl _) (i := 0) (v := .int .i64 i)) (Nat.le_refl _) (i := 1) (v := .int .i64 2)) (Nat.le_refl _) (i := 2) (v := .int .i64 x)) (Nat.le_refl _) (i := 3) (v := .int .i64 y)) (Nat.le_refl _) (i := 4) (v := .int .i64 c4)) (Nat.le_refl _) (i := 5) (v := .int .i64 0))
      clear HT HZ HC HG
      go_wp2_with fail
      have hl := HE.out.load Tryd.underlying38 rfl (by kernel_rfl)
      refine bodyPost_ret (v := .agg #[.int .i64 i, .int .i64 2, .int .i64 x, .int .i64 y, .int .i64 c4, .int .i64 0]) ?_ rfl ⟨_, _, _, _, _, _, rfl, HCe.out.more (by omega), HGe.out⟩
      rw [ats.results_cell1 rfl]
      simp [asAddr, Result.andThen, hl]
    have e_2 : (s == 2) = false := by simpa using g2
    go_wp2_with fail
    refine (pick p _ 9 wc HC.out (by omega) (by omega) (by omega)).mono ?_
    rintro e wr ⟨r, rfl, r0, r1, hc, hg⟩
    clear t0 tf0 t1 tf1 t2 tf2 t3 tf3 t4 tf4 t5 tf5
    have HT := Lib.hid (HT.out.grown hg (Nat.ne_of_gt htp))
    have HZ := Lib.hid (HZ.out.grown hg (Nat.ne_of_gt hzp))
    have HC := Lib.hid hc
    have HG := Lib.hid (grown_trans HG.out hg)
    clear hc hg
    have e1 : IntKind.i64.wrap (3 + r) = 3 + r := IntWalk.i64_in _ (by omega)
    have t0 : wr.cell? ⟨b, 0, none⟩ = some (.int .i64 i) := HT.out.cell 0 _ rfl
    have tf0 := HT.out.frozen 0
    have t1 : wr.cell? ⟨b, 1, none⟩ = some (.int .i64 s) := HT.out.cell 1 _ rfl
    have tf1 := HT.out.frozen 1
    have t2 : wr.cell? ⟨b, 2, none⟩ = some (.int .i64 x) := HT.out.cell 2 _ rfl
    have tf2 := HT.out.frozen 2
    have t3 : wr.cell? ⟨b, 3, none⟩ = some (.int .i64 y) := HT.out.cell 3 _ rfl
    have tf3 := HT.out.frozen 3
    have t4 : wr.cell? ⟨b, 4, none⟩ = some (.int .i64 0) := HT.out.cell 4 _ rfl
    have tf4 := HT.out.frozen 4
    have t5 : wr.cell? ⟨b, 5, none⟩ = some (.int .i64 0) := HT.out.cell 5 _ rfl
    have tf5 := HT.out.frozen 5
    go_upto_region 5 with fail
    clear t0 tf0 t1 tf1 t2 tf2 t3 tf3 t4 tf4 t5 tf5
    have HT := Lib.hid (HT.out.set 4 (.int .i64 (3 + r)))
    have HZ := Lib.hid (HZ.out.other (Nat.ne_of_lt hzt) 4 (.int .i64 (3 + r)))
    have HC := Lib.hid (Cur.set HC.out htp (i := 4) (v := .int .i64 (3 + r)))
    have HG := Lib.hid (grown_put HG.out (Nat.le_of_lt hzt) (i := 4) (v := .int .i64 (3 + r)))
    generalize wr.setCell ⟨b, 4, none⟩ (.int .i64 (3 + r)) = wrv at *
    generalize 3 + r = c4 at *
    clear e1 r0 r1
    have t0 : wrv.cell? ⟨b, 0, none⟩ = some (.int .i64 i) := HT.out.cell 0 _ rfl
    have tf0 := HT.out.frozen 0
    have t1 : wrv.cell? ⟨b, 1, none⟩ = some (.int .i64 s) := HT.out.cell 1 _ rfl
    have tf1 := HT.out.frozen 1
    have t2 : wrv.cell? ⟨b, 2, none⟩ = some (.int .i64 x) := HT.out.cell 2 _ rfl
    have tf2 := HT.out.frozen 2
    have t3 : wrv.cell? ⟨b, 3, none⟩ = some (.int .i64 y) := HT.out.cell 3 _ rfl
    have tf3 := HT.out.frozen 3
    have t4 : wrv.cell? ⟨b, 4, none⟩ = some (.int .i64 c4) := HT.out.cell 4 _ rfl
    have tf4 := HT.out.frozen 4
    have t5 : wrv.cell? ⟨b, 5, none⟩ = some (.int .i64 0) := HT.out.cell 5 _ rfl
    have tf5 := HT.out.frozen 5
    go_wp2_with fail
    refine (pick p _ 3 wrv HC.out (by omega) (by omega) (by omega)).mono ?_
    rintro e wt ⟨r, rfl, r0, r1, hc, hg⟩
    clear t0 tf0 t1 tf1 t2 tf2 t3 tf3 t4 tf4 t5 tf5
    have HT := Lib.hid (HT.out.grown hg (Nat.ne_of_gt htp))
    have HZ := Lib.hid (HZ.out.grown hg (Nat.ne_of_gt hzp))
    have HC := Lib.hid hc
    have HG := Lib.hid (grown_trans HG.out hg)
    clear hc hg
    have e1 : IntKind.i64.wrap (1 + r) = 1 + r := IntWalk.i64_in _ (by omega)
    have t0 : wt.cell? ⟨b, 0, none⟩ = some (.int .i64 i) := HT.out.cell 0 _ rfl
    have tf0 := HT.out.frozen 0
    have t1 : wt.cell? ⟨b, 1, none⟩ = some (.int .i64 s) := HT.out.cell 1 _ rfl
    have tf1 := HT.out.frozen 1
    have t2 : wt.cell? ⟨b, 2, none⟩ = some (.int .i64 x) := HT.out.cell 2 _ rfl
    have tf2 := HT.out.frozen 2
    have t3 : wt.cell? ⟨b, 3, none⟩ = some (.int .i64 y) := HT.out.cell 3 _ rfl
    have tf3 := HT.out.frozen 3
    have t4 : wt.cell? ⟨b, 4, none⟩ = some (.int .i64 c4) := HT.out.cell 4 _ rfl
    have tf4 := HT.out.frozen 4
    have t5 : wt.cell? ⟨b, 5, none⟩ = some (.int .i64 0) := HT.out.cell 5 _ rfl
    have tf5 := HT.out.frozen 5
    go_upto_region 10 with fail
    clear t0 tf0 t1 tf1 t2 tf2 t3 tf3 t4 tf4 t5 tf5
    have HT := Lib.hid (HT.out.set 5 (.int .i64 (1 + r)))
    have HZ := Lib.hid (HZ.out.other (Nat.ne_of_lt hzt) 5 (.int .i64 (1 + r)))
    have HC := Lib.hid (Cur.set HC.out htp (i := 5) (v := .int .i64 (1 + r)))
    have HG := Lib.hid (grown_put HG.out (Nat.le_of_lt hzt) (i := 5) (v := .int .i64 (1 + r)))
    generalize wt.setCell ⟨b, 5, none⟩ (.int .i64 (1 + r)) = wtv at *
    generalize 1 + r = c5 at *
    clear e1 r0 r1
    have t0 : wtv.cell? ⟨b, 0, none⟩ = some (.int .i64 i) := HT.out.cell 0 _ rfl
    have tf0 := HT.out.frozen 0
    have t1 : wtv.cell? ⟨b, 1, none⟩ = some (.int .i64 s) := HT.out.cell 1 _ rfl
    have tf1 := HT.out.frozen 1
    have t2 : wtv.cell? ⟨b, 2, none⟩ = some (.int .i64 x) := HT.out.cell 2 _ rfl
    have tf2 := HT.out.frozen 2
    have t3 : wtv.cell? ⟨b, 3, none⟩ = some (.int .i64 y) := HT.out.cell 3 _ rfl
    have tf3 := HT.out.frozen 3
    have t4 : wtv.cell? ⟨b, 4, none⟩ = some (.int .i64 c4) := HT.out.cell 4 _ rfl
    have tf4 := HT.out.frozen 4
    have t5 : wtv.cell? ⟨b, 5, none⟩ = some (.int .i64 c5) := HT.out.cell 5 _ rfl
    have tf5 := HT.out.frozen 5
    go_upto_region 10 with fail
    clear t0 tf0 t1 tf1 t2 tf2 t3 tf3 t4 tf4 t5 tf5
    go_wp2_with fail
    refine (pick p _ 24 wtv HC.out (by omega) (by omega) (by omega)).mono ?_
    rintro e wk ⟨k, rfl, k0, k1, hc, hg⟩
    have HT := Lib.hid (HT.out.grown hg (Nat.ne_of_gt htp))
    have HZ := Lib.hid (HZ.out.grown hg (Nat.ne_of_gt hzp))
    have HC := Lib.hid hc
    have HG := Lib.hid (grown_trans HG.out hg)
    clear hc hg
    by_cases h0 : k = 0
    · subst h0
      go_wp2_with fail
      refine (among_new (0) 10000 p _ 5 [0, 2, 3, 9999, 10000] _ wk HC.out (by omega) (by omega) (by omega) rfl rfl (by decide)).mono ?_
      rintro e wu ⟨u, rfl, u0, u1, hc, hg⟩
      have HT := Lib.hid (HT.out.grown hg (Nat.ne_of_gt htp))
      have HZ := Lib.hid (HZ.out.grown hg (Nat.ne_of_gt hzp))
      have HC := Lib.hid hc
      have HG := Lib.hid (grown_trans HG.out hg)
      clear hc hg
      have t0 : wu.cell? ⟨b, 0, none⟩ = some (.int .i64 i) := HT.out.cell 0 _ rfl
      have tf0 := HT.out.frozen 0
      have t1 : wu.cell? ⟨b, 1, none⟩ = some (.int .i64 s) := HT.out.cell 1 _ rfl
      have tf1 := HT.out.frozen 1
      have t2 : wu.cell? ⟨b, 2, none⟩ = some (.int .i64 x) := HT.out.cell 2 _ rfl
      have tf2 := HT.out.frozen 2
      have t3 : wu.cell? ⟨b, 3, none⟩ = some (.int .i64 y) := HT.out.cell 3 _ rfl
      have tf3 := HT.out.frozen 3
      have t4 : wu.cell? ⟨b, 4, none⟩ = some (.int .i64 c4) := HT.out.cell 4 _ rfl
      have tf4 := HT.out.frozen 4
      have t5 : wu.cell? ⟨b, 5, none⟩ = some (.int .i64 c5) := HT.out.cell 5 _ rfl
      have tf5 := HT.out.frozen 5
      go_upto_region 19 with fail
      clear t0 tf0 t1 tf1 t2 tf2 t3 tf3 t4 tf4 t5 tf5
      have HT := Lib.hid (HT.out.set 4 (.int .i64 u))
      have HZ := Lib.hid (HZ.out.other (Nat.ne_of_lt hzt) 4 (.int .i64 u))
      have HC := Lib.hid (Cur.set HC.out htp (i := 4) (v := .int .i64 u))
      have HG := Lib.hid (grown_put HG.out (Nat.le_of_lt hzt) (i := 4) (v := .int .i64 u))
      generalize wu.setCell ⟨b, 4, none⟩ (.int .i64 u) = wv at *
      have z0 : wv.cell? ⟨w.heap.size, 0, none⟩ = some (.int .i64 0) := HZ.out.cell 0 _ rfl
      have zf0 := HZ.out.frozen 0
      have z1 : wv.cell? ⟨w.heap.size, 1, none⟩ = some (.int .i64 0) := HZ.out.cell 1 _ rfl
      have zf1 := HZ.out.frozen 1
      have z2 : wv.cell? ⟨w.heap.size, 2, none⟩ = some (.int .i64 0) := HZ.out.cell 2 _ rfl
      have zf2 := HZ.out.frozen 2
      have z3 : wv.cell? ⟨w.heap.size, 3, none⟩ = some (.int .i64 0) := HZ.out.cell 3 _ rfl
      have zf3 := HZ.out.frozen 3
      have z4 : wv.cell? ⟨w.heap.size, 4, none⟩ = some (.int .i64 0) := HZ.out.cell 4 _ rfl
      have zf4 := HZ.out.frozen 4
      have z5 : wv.cell? ⟨w.heap.size, 5, none⟩ = some (.int .i64 0) := HZ.out.cell 5 _ rfl
      have zf5 := HZ.out.frozen 5
      have t0 : wv.cell? ⟨b, 0, none⟩ = some (.int .i64 i) := HT.out.cell 0 _ rfl
      have tf0 := HT.out.frozen 0
      have t1 : wv.cell? ⟨b, 1, none⟩ = some (.int .i64 s) := HT.out.cell 1 _ rfl
      have tf1 := HT.out.frozen 1
      have t2 : wv.cell? ⟨b, 2, none⟩ = some (.int .i64 x) := HT.out.cell 2 _ rfl
      have tf2 := HT.out.frozen 2
      have t3 : wv.cell? ⟨b, 3, none⟩ = some (.int .i64 y) := HT.out.cell 3 _ rfl
      have tf3 := HT.out.frozen 3
      have t4 : wv.cell? ⟨b, 4, none⟩ = some (.int .i64 u) := HT.out.cell 4 _ rfl
      have tf4 := HT.out.frozen 4
      have t5 : wv.cell? ⟨b, 5, none⟩ = some (.int .i64 c5) := HT.out.cell 5 _ rfl
      have tf5 := HT.out.frozen 5
      have HE := Lib.hid ((((((HZ.out.set 0 (.int .i64 i)).set 1 (.int .i64 s)).set 2 (.int .i64 x)).set 3 (.int .i64 y)).set 4 (.int .i64 u)).set 5 (.int .i64 c5))
      have HCe := Lib.hid (Cur.set (Cur.set (Cur.set (Cur.set (Cur.set (Cur.set HC.out hzp (i := 0) (v := .int .i64 i)) hzp (i := 1) (v := .int .i64 s)) hzp (i := 2) (v := .int .i64 x)) hzp (i := 3) (v := .int .i64 y)) hzp (i := 4) (v := .int .i64 u)) hzp (i := 5) (v := .int .i64 c5))
      have HGe := Lib.hid (grown_put (grown_put (grown_put (grown_put (grown_put (grown_put HG.out (Nat.le_refl _) (i := 0) (v := .int .i64 i)) (Nat.le_refl _) (i := 1) (v := .int .i64 s)) (Nat.le_refl _) (i := 2) (v := .int .i64 x)) (Nat.le_refl _) (i := 3) (v := .int .i64 y)) (Nat.le_refl _) (i := 4) (v := .int .i64 u)) (Nat.le_refl _) (i := 5) (v := .int .i64 c5))
      clear HT HZ HC HG
      go_wp2_with fail
      have hl := HE.out.load Tryd.underlying38 rfl (by kernel_rfl)
      refine bodyPost_ret (v := .agg #[.int .i64 i, .int .i64 s, .int .i64 x, .int .i64 y, .int .i64 u, .int .i64 c5]) ?_ rfl ⟨_, _, _, _, _, _, rfl, HCe.out.more (by omega), HGe.out⟩
      rw [ats.results_cell1 rfl]
      simp [asAddr, Result.andThen, hl]
    have d0 : (k == 0) = false := by simpa using h0
    by_cases h1 : k = 1
    · subst h1
      go_wp2_with fail
      refine (among_new (-1) 4 p _ 4 [0, 1, 4, -1] _ wk HC.out (by omega) (by omega) (by omega) rfl rfl (by decide)).mono ?_
      rintro e wu ⟨u, rfl, u0, u1, hc, hg⟩
      have HT := Lib.hid (HT.out.grown hg (Nat.ne_of_gt htp))
      have HZ := Lib.hid (HZ.out.grown hg (Nat.ne_of_gt hzp))
      have HC := Lib.hid hc
      have HG := Lib.hid (grown_trans HG.out hg)
      clear hc hg
      have t0 : wu.cell? ⟨b, 0, none⟩ = some (.int .i64 i) := HT.out.cell 0 _ rfl
      have tf0 := HT.out.frozen 0
      have t1 : wu.cell? ⟨b, 1, none⟩ = some (.int .i64 s) := HT.out.cell 1 _ rfl
      have tf1 := HT.out.frozen 1
      have t2 : wu.cell? ⟨b, 2, none⟩ = some (.int .i64 x) := HT.out.cell 2 _ rfl
      have tf2 := HT.out.frozen 2
      have t3 : wu.cell? ⟨b, 3, none⟩ = some (.int .i64 y) := HT.out.cell 3 _ rfl
      have tf3 := HT.out.frozen 3
      have t4 : wu.cell? ⟨b, 4, none⟩ = some (.int .i64 c4) := HT.out.cell 4 _ rfl
      have tf4 := HT.out.frozen 4
      have t5 : wu.cell? ⟨b, 5, none⟩ = some (.int .i64 c5) := HT.out.cell 5 _ rfl
      have tf5 := HT.out.frozen 5
      go_upto_region 19 with fail
      clear t0 tf0 t1 tf1 t2 tf2 t3 tf3 t4 tf4 t5 tf5
      have HT := Lib.hid (HT.out.set 5 (.int .i64 u))
      have HZ := Lib.hid (HZ.out.other (Nat.ne_of_lt hzt) 5 (.int .i64 u))
      have HC := Lib.hid (Cur.set HC.out htp (i := 5) (v := .int .i64 u))
      have HG := Lib.hid (grown_put HG.out (Nat.le_of_lt hzt) (i := 5) (v := .int .i64 u))
      generalize wu.setCell ⟨b, 5, none⟩ (.int .i64 u) = wv at *
      have z0 : wv.cell? ⟨w.heap.size, 0, none⟩ = some (.int .i64 0) := HZ.out.cell 0 _ rfl
      have zf0 := HZ.out.frozen 0
      have z1 : wv.cell? ⟨w.heap.size, 1, none⟩ = some (.int .i64 0) := HZ.out.cell 1 _ rfl
      have zf1 := HZ.out.frozen 1
      have z2 : wv.cell? ⟨w.heap.size, 2, none⟩ = some (.int .i64 0) := HZ.out.cell 2 _ rfl
      have zf2 := HZ.out.frozen 2
      have z3 : wv.cell? ⟨w.heap.size, 3, none⟩ = some (.int .i64 0) := HZ.out.cell 3 _ rfl
      have zf3 := HZ.out.frozen 3
      have z4 : wv.cell? ⟨w.heap.size, 4, none⟩ = some (.int .i64 0) := HZ.out.cell 4 _ rfl
      have zf4 := HZ.out.frozen 4
      have z5 : wv.cell? ⟨w.heap.size, 5, none⟩ = some (.int .i64 0) := HZ.out.cell 5 _ rfl
      have zf5 := HZ.out.frozen 5
      have t0 : wv.cell? ⟨b, 0, none⟩ = some (.int .i64 i) := HT.out.cell 0 _ rfl
      have tf0 := HT.out.frozen 0
      have t1 : wv.cell? ⟨b, 1, none⟩ = some (.int .i64 s) := HT.out.cell 1 _ rfl
      have tf1 := HT.out.frozen 1
      have t2 : wv.cell? ⟨b, 2, none⟩ = some (.int .i64 x) := HT.out.cell 2 _ rfl
      have tf2 := HT.out.frozen 2
      have t3 : wv.cell? ⟨b, 3, none⟩ = some (.int .i64 y) := HT.out.cell 3 _ rfl
      have tf3 := HT.out.frozen 3
      have t4 : wv.cell? ⟨b, 4, none⟩ = some (.int .i64 c4) := HT.out.cell 4 _ rfl
      have tf4 := HT.out.frozen 4
      have t5 : wv.cell? ⟨b, 5, none⟩ = some (.int .i64 u) := HT.out.cell 5 _ rfl
      have tf5 := HT.out.frozen 5
      have HE := Lib.hid ((((((HZ.out.set 0 (.int .i64 i)).set 1 (.int .i64 s)).set 2 (.int .i64 x)).set 3 (.int .i64 y)).set 4 (.int .i64 c4)).set 5 (.int .i64 u))
      have HCe := Lib.hid (Cur.set (Cur.set (Cur.set (Cur.set (Cur.set (Cur.set HC.out hzp (i := 0) (v := .int .i64 i)) hzp (i := 1) (v := .int .i64 s)) hzp (i := 2) (v := .int .i64 x)) hzp (i := 3) (v := .int .i64 y)) hzp (i := 4) (v := .int .i64 c4)) hzp (i := 5) (v := .int .i64 u))
      have HGe := Lib.hid (grown_put (grown_put (grown_put (grown_put (grown_put (grown_put HG.out (Nat.le_refl _) (i := 0) (v := .int .i64 i)) (Nat.le_refl _) (i := 1) (v := .int .i64 s)) (Nat.le_refl _) (i := 2) (v := .int .i64 x)) (Nat.le_refl _) (i := 3) (v := .int .i64 y)) (Nat.le_refl _) (i := 4) (v := .int .i64 c4)) (Nat.le_refl _) (i := 5) (v := .int .i64 u))
      clear HT HZ HC HG
      go_wp2_with fail
      have hl := HE.out.load Tryd.underlying38 rfl (by kernel_rfl)
      refine bodyPost_ret (v := .agg #[.int .i64 i, .int .i64 s, .int .i64 x, .int .i64 y, .int .i64 c4, .int .i64 u]) ?_ rfl ⟨_, _, _, _, _, _, rfl, HCe.out.more (by omega), HGe.out⟩
      rw [ats.results_cell1 rfl]
      simp [asAddr, Result.andThen, hl]
    have d1 : (k == 1) = false := by simpa using h1
    by_cases h2 : k = 2
    · subst h2
      go_wp2_with fail
      refine (among_new (-1) 9900 p _ 3 [-1, 9900, 9899] _ wk HC.out (by omega) (by omega) (by omega) rfl rfl (by decide)).mono ?_
      rintro e wu ⟨u, rfl, u0, u1, hc, hg⟩
      have HT := Lib.hid (HT.out.grown hg (Nat.ne_of_gt htp))
      have HZ := Lib.hid (HZ.out.grown hg (Nat.ne_of_gt hzp))
      have HC := Lib.hid hc
      have HG := Lib.hid (grown_trans HG.out hg)
      clear hc hg
      have t0 : wu.cell? ⟨b, 0, none⟩ = some (.int .i64 i) := HT.out.cell 0 _ rfl
      have tf0 := HT.out.frozen 0
      have t1 : wu.cell? ⟨b, 1, none⟩ = some (.int .i64 s) := HT.out.cell 1 _ rfl
      have tf1 := HT.out.frozen 1
      have t2 : wu.cell? ⟨b, 2, none⟩ = some (.int .i64 x) := HT.out.cell 2 _ rfl
      have tf2 := HT.out.frozen 2
      have t3 : wu.cell? ⟨b, 3, none⟩ = some (.int .i64 y) := HT.out.cell 3 _ rfl
      have tf3 := HT.out.frozen 3
      have t4 : wu.cell? ⟨b, 4, none⟩ = some (.int .i64 c4) := HT.out.cell 4 _ rfl
      have tf4 := HT.out.frozen 4
      have t5 : wu.cell? ⟨b, 5, none⟩ = some (.int .i64 c5) := HT.out.cell 5 _ rfl
      have tf5 := HT.out.frozen 5
      go_upto_region 19 with fail
      clear t0 tf0 t1 tf1 t2 tf2 t3 tf3 t4 tf4 t5 tf5
      have HT := Lib.hid (HT.out.set 2 (.int .i64 u))
      have HZ := Lib.hid (HZ.out.other (Nat.ne_of_lt hzt) 2 (.int .i64 u))
      have HC := Lib.hid (Cur.set HC.out htp (i := 2) (v := .int .i64 u))
      have HG := Lib.hid (grown_put HG.out (Nat.le_of_lt hzt) (i := 2) (v := .int .i64 u))
      generalize wu.setCell ⟨b, 2, none⟩ (.int .i64 u) = wv at *
      have z0 : wv.cell? ⟨w.heap.size, 0, none⟩ = some (.int .i64 0) := HZ.out.cell 0 _ rfl
      have zf0 := HZ.out.frozen 0
      have z1 : wv.cell? ⟨w.heap.size, 1, none⟩ = some (.int .i64 0) := HZ.out.cell 1 _ rfl
      have zf1 := HZ.out.frozen 1
      have z2 : wv.cell? ⟨w.heap.size, 2, none⟩ = some (.int .i64 0) := HZ.out.cell 2 _ rfl
      have zf2 := HZ.out.frozen 2
      have z3 : wv.cell? ⟨w.heap.size, 3, none⟩ = some (.int .i64 0) := HZ.out.cell 3 _ rfl
      have zf3 := HZ.out.frozen 3
      have z4 : wv.cell? ⟨w.heap.size, 4, none⟩ = some (.int .i64 0) := HZ.out.cell 4 _ rfl
      have zf4 := HZ.out.frozen 4
      have z5 : wv.cell? ⟨w.heap.size, 5, none⟩ = some (.int .i64 0) := HZ.out.cell 5 _ rfl
      have zf5 := HZ.out.frozen 5
      have t0 : wv.cell? ⟨b, 0, none⟩ = some (.int .i64 i) := HT.out.cell 0 _ rfl
      have tf0 := HT.out.frozen 0
      have t1 : wv.cell? ⟨b, 1, none⟩ = some (.int .i64 s) := HT.out.cell 1 _ rfl
      have tf1 := HT.out.frozen 1
      have t2 : wv.cell? ⟨b, 2, none⟩ = some (.int .i64 u) := HT.out.cell 2 _ rfl
      have tf2 := HT.out.frozen 2
      have t3 : wv.cell? ⟨b, 3, none⟩ = some (.int .i64 y) := HT.out.cell 3 _ rfl
      have tf3 := HT.out.frozen 3
      have t4 : wv.cell? ⟨b, 4, none⟩ = some (.int .i64 c4) := HT.out.cell 4 _ rfl
      have tf4 := HT.out.frozen 4
      have t5 : wv.cell? ⟨b, 5, none⟩ = some (.int .i64 c5) := HT.out.cell 5 _ rfl
      have tf5 := HT.out.frozen 5
      have HE := Lib.hid ((((((HZ.out.set 0 (.int .i64 i)).set 1 (.int .i64 s)).set 2 (.int .i64 u)).set 3 (.int .i64 y)).set 4 (.int .i64 c4)).set 5 (.int .i64 c5))
      have HCe := Lib.hid (Cur.set (Cur.set (Cur.set (Cur.set (Cur.set (Cur.set HC.out hzp (i := 0) (v := .int .i64 i)) hzp (i := 1) (v := .int .i64 s)) hzp (i := 2) (v := .int .i64 u)) hzp (i := 3) (v := .int .i64 y)) hzp (i := 4) (v := .int .i64 c4)) hzp (i := 5) (v := .int .i64 c5))
      have HGe := Lib.hid (grown_put (grown_put (grown_put (grown_put (grown_put (grown_put HG.out (Nat.le_refl _) (i := 0) (v := .int .i64 i)) (Nat.le_refl _) (i := 1) (v := .int .i64 s)) (Nat.le_refl _) (i := 2) (v := .int .i64 u)) (Nat.le_refl _) (i := 3) (v := .int .i64 y)) (Nat.le_refl _) (i := 4) (v := .int .i64 c4)) (Nat.le_refl _) (i := 5) (v := .int .i64 c5))
      clear HT HZ HC HG
      go_wp2_with fail
      have hl := HE.out.load Tryd.underlying38 rfl (by kernel_rfl)
      refine bodyPost_ret (v := .agg #[.int .i64 i, .int .i64 s, .int .i64 u, .int .i64 y, .int .i64 c4, .int .i64 c5]) ?_ rfl ⟨_, _, _, _, _, _, rfl, HCe.out.more (by omega), HGe.out⟩
      rw [ats.results_cell1 rfl]
      simp [asAddr, Result.andThen, hl]
    have d2 : (k == 2) = false := by simpa using h2
    by_cases h3 : k = 3
    · subst h3
      go_wp2_with fail
      refine (among_new (0) 4 p _ 2 [0, 4] _ wk HC.out (by omega) (by omega) (by omega) rfl rfl (by decide)).mono ?_
      rintro e wu ⟨u, rfl, u0, u1, hc, hg⟩
      have HT := Lib.hid (HT.out.grown hg (Nat.ne_of_gt htp))
      have HZ := Lib.hid (HZ.out.grown hg (Nat.ne_of_gt hzp))
      have HC := Lib.hid hc
      have HG := Lib.hid (grown_trans HG.out hg)
      clear hc hg
      have t0 : wu.cell? ⟨b, 0, none⟩ = some (.int .i64 i) := HT.out.cell 0 _ rfl
      have tf0 := HT.out.frozen 0
      have t1 : wu.cell? ⟨b, 1, none⟩ = some (.int .i64 s) := HT.out.cell 1 _ rfl
      have tf1 := HT.out.frozen 1
      have t2 : wu.cell? ⟨b, 2, none⟩ = some (.int .i64 x) := HT.out.cell 2 _ rfl
      have tf2 := HT.out.frozen 2
      have t3 : wu.cell? ⟨b, 3, none⟩ = some (.int .i64 y) := HT.out.cell 3 _ rfl
      have tf3 := HT.out.frozen 3
      have t4 : wu.cell? ⟨b, 4, none⟩ = some (.int .i64 c4) := HT.out.cell 4 _ rfl
      have tf4 := HT.out.frozen 4
      have t5 : wu.cell? ⟨b, 5, none⟩ = some (.int .i64 c5) := HT.out.cell 5 _ rfl
      have tf5 := HT.out.frozen 5
      go_upto_region 19 with fail
      clear t0 tf0 t1 tf1 t2 tf2 t3 tf3 t4 tf4 t5 tf5
      have HT := Lib.hid (HT.out.set 1 (.int .i64 u))
      have HZ := Lib.hid (HZ.out.other (Nat.ne_of_lt hzt) 1 (.int .i64 u))
      have HC := Lib.hid (Cur.set HC.out htp (i := 1) (v := .int .i64 u))
      have HG := Lib.hid (grown_put HG.out (Nat.le_of_lt hzt) (i := 1) (v := .int .i64 u))
      generalize wu.setCell ⟨b, 1, none⟩ (.int .i64 u) = wv at *
      have z0 : wv.cell? ⟨w.heap.size, 0, none⟩ = some (.int .i64 0) := HZ.out.cell 0 _ rfl
      have zf0 := HZ.out.frozen 0
      have z1 : wv.cell? ⟨w.heap.size, 1, none⟩ = some (.int .i64 0) := HZ.out.cell 1 _ rfl
      have zf1 := HZ.out.frozen 1
      have z2 : wv.cell? ⟨w.heap.size, 2, none⟩ = some (.int .i64 0) := HZ.out.cell 2 _ rfl
      have zf2 := HZ.out.frozen 2
      have z3 : wv.cell? ⟨w.heap.size, 3, none⟩ = some (.int .i64 0) := HZ.out.cell 3 _ rfl
      have zf3 := HZ.out.frozen 3
      have z4 : wv.cell? ⟨w.heap.size, 4, none⟩ = some (.int .i64 0) := HZ.out.cell 4 _ rfl
      have zf4 := HZ.out.frozen 4
      have z5 : wv.cell? ⟨w.heap.size, 5, none⟩ = some (.int .i64 0) := HZ.out.cell 5 _ rfl
      have zf5 := HZ.out.frozen 5
      have t0 : wv.cell? ⟨b, 0, none⟩ = some (.int .i64 i) := HT.out.cell 0 _ rfl
      have tf0 := HT.out.frozen 0
      have t1 : wv.cell? ⟨b, 1, none⟩ = some (.int .i64 u) := HT.out.cell 1 _ rfl
      have tf1 := HT.out.frozen 1
      have t2 : wv.cell? ⟨b, 2, none⟩ = some (.int .i64 x) := HT.out.cell 2 _ rfl
      have tf2 := HT.out.frozen 2
      have t3 : wv.cell? ⟨b, 3, none⟩ = some (.int .i64 y) := HT.out.cell 3 _ rfl
      have tf3 := HT.out.frozen 3
      have t4 : wv.cell? ⟨b, 4, none⟩ = some (.int .i64 c4) := HT.out.cell 4 _ rfl
      have tf4 := HT.out.frozen 4
      have t5 : wv.cell? ⟨b, 5, none⟩ = some (.int .i64 c5) := HT.out.cell 5 _ rfl
      have tf5 := HT.out.frozen 5
      have HE := Lib.hid ((((((HZ.out.set 0 (.int .i64 i)).set 1 (.int .i64 u)).set 2 (.int .i64 x)).set 3 (.int .i64 y)).set 4 (.int .i64 c4)).set 5 (.int .i64 c5))
      have HCe := Lib.hid (Cur.set (Cur.set (Cur.set (Cur.set (Cur.set (Cur.set HC.out hzp (i := 0) (v := .int .i64 i)) hzp (i := 1) (v := .int .i64 u)) hzp (i := 2) (v := .int .i64 x)) hzp (i := 3) (v := .int .i64 y)) hzp (i := 4) (v := .int .i64 c4)) hzp (i := 5) (v := .int .i64 c5))
      have HGe := Lib.hid (grown_put (grown_put (grown_put (grown_put (grown_put (grown_put HG.out (Nat.le_refl _) (i := 0) (v := .int .i64 i)) (Nat.le_refl _) (i := 1) (v := .int .i64 u)) (Nat.le_refl _) (i := 2) (v := .int .i64 x)) (Nat.le_refl _) (i := 3) (v := .int .i64 y)) (Nat.le_refl _) (i := 4) (v := .int .i64 c4)) (Nat.le_refl _) (i := 5) (v := .int .i64 c5))
      clear HT HZ HC HG
      go_wp2_with fail
      have hl := HE.out.load Tryd.underlying38 rfl (by kernel_rfl)
      refine bodyPost_ret (v := .agg #[.int .i64 i, .int .i64 u, .int .i64 x, .int .i64 y, .int .i64 c4, .int .i64 c5]) ?_ rfl ⟨_, _, _, _, _, _, rfl, HCe.out.more (by omega), HGe.out⟩
      rw [ats.results_cell1 rfl]
      simp [asAddr, Result.andThen, hl]
    have d3 : (k == 3) = false := by simpa using h3
    have z0 : wk.cell? ⟨w.heap.size, 0, none⟩ = some (.int .i64 0) := HZ.out.cell 0 _ rfl
    have zf0 := HZ.out.frozen 0
    have z1 : wk.cell? ⟨w.heap.size, 1, none⟩ = some (.int .i64 0) := HZ.out.cell 1 _ rfl
    have zf1 := HZ.out.frozen 1
    have z2 : wk.cell? ⟨w.heap.size, 2, none⟩ = some (.int .i64 0) := HZ.out.cell 2 _ rfl
    have zf2 := HZ.out.frozen 2
    have z3 : wk.cell? ⟨w.heap.size, 3, none⟩ = some (.int .i64 0) := HZ.out.cell 3 _ rfl
    have zf3 := HZ.out.frozen 3
    have z4 : wk.cell? ⟨w.heap.size, 4, none⟩ = some (.int .i64 0) := HZ.out.cell 4 _ rfl
    have zf4 := HZ.out.frozen 4
    have z5 : wk.cell? ⟨w.heap.size, 5, none⟩ = some (.int .i64 0) := HZ.out.cell 5 _ rfl
    have zf5 := HZ.out.frozen 5
    have t0 : wk.cell? ⟨b, 0, none⟩ = some (.int .i64 i) := HT.out.cell 0 _ rfl
    have tf0 := HT.out.frozen 0
    have t1 : wk.cell? ⟨b, 1, none⟩ = some (.int .i64 s) := HT.out.cell 1 _ rfl
    have tf1 := HT.out.frozen 1
    have t2 : wk.cell? ⟨b, 2, none⟩ = some (.int .i64 x) := HT.out.cell 2 _ rfl
    have tf2 := HT.out.frozen 2
    have t3 : wk.cell? ⟨b, 3, none⟩ = some (.int .i64 y) := HT.out.cell 3 _ rfl
    have tf3 := HT.out.frozen 3
    have t4 : wk.cell? ⟨b, 4, none⟩ = some (.int .i64 c4) := HT.out.cell 4 _ rfl
    have tf4 := HT.out.frozen 4
    have t5 : wk.cell? ⟨b, 5, none⟩ = some (.int .i64 c5) := HT.out.cell 5 _ rfl
    have tf5 := HT.out.frozen 5
    have HE := Lib.hid ((((((HZ.out.set 0 (.int .i64 i)).set 1 (.int .i64 s)).set 2 (.int .i64 x)).set 3 (.int .i64 y)).set 4 (.int .i64 c4)).set 5 (.int .i64 c5))
    have HCe := Lib.hid (Cur.set (Cur.set (Cur.set (Cur.set (Cur.set (Cur.set HC.out hzp (i := 0) (v := .int .i64 i)) hzp (i := 1) (v := .int .i64 s)) hzp (i := 2) (v := .int .i64 x)) hzp (i := 3) (v := .int .i64 y)) hzp (i := 4) (v := .int .i64 c4)) hzp (i := 5) (v := .int .i64 c5))
    have HGe := Lib.hid (grown_put (grown_put (grown_put (grown_put (grown_put (grown_put HG.out (Nat.le_refl _) (i := 0) (v := .int .i64 i)) (Nat.le_refl _) (i := 1) (v := .int .i64 s)) (Nat.le_refl _) (i := 2) (v := .int .i64 x)) (Nat.le_refl _) (i := 3) (v := .int .i64 y)) (Nat.le_refl _) (i := 4) (v := .int .i64 c4)) (Nat.le_refl _) (i := 5) (v := .int .i64 c5))
    clear HT HZ HC HG
    go_wp2_with fail
    have hl := HE.out.load Tryd.underlying38 rfl (by kernel_rfl)
    refine bodyPost_ret (v := .agg #[.int .i64 i, .int .i64 s, .int .i64 x, .int .i64 y, .int .i64 c4, .int .i64 c5]) ?_ rfl ⟨_, _, _, _, _, _, rfl, HCe.out.more (by omega), HGe.out⟩
    rw [ats.results_cell1 rfl]
    simp [asAddr, Result.andThen, hl]

end Go.Proofs.YtinkkdgjpcnklaaDoor.draws14
