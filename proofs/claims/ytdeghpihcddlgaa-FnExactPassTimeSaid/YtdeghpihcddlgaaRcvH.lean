/- Positions of an aircraft: impl's isFresh, positionBy, PositionNow; spec's l9Position, PositionNow. -/
import Derived.Test.YtdeghpihcddlgaaRcvG
import Derived.Test.YtdeghpihcddlgaaRcvF
import Derived.Test.YtdeghpihcddlgaaPosM
import Derived.Test.YtdeghpihcddlgaaPosU
import Derived.Test.YtdeghpihcddlgaaPosX
import Derived.Deep.RegionHeld3
import Derived.Deep.CutRange
namespace Go.Proofs.Ytdeghpihcddlgaa.rcvh
open Go.RowKit Go.Proofs.Ytdeghpihcddlgaa.pos Go.Proofs.Ytdeghpihcddlgaa.rcv Go.Proofs.Ytdeghpihcddlgaa.rcvm Go.Proofs.Ytdeghpihcddlgaa.ats Go.Proofs.Ytdeghpihcddlgaa.rcvg

/-- A minute that a valid receiver keeps. -/
def At (m t : Int) : Prop := t = -1 ∨ (0 ≤ t ∧ t ≤ m)
theorem at_in {m t : Int} (hm : 0 ≤ m ∧ m ≤ 9999) (h : At m t) : -1 ≤ t ∧ t ≤ 9999 := by rcases h with h | h <;> omega
def fsh (m t : Int) : Bool := decide (0 ≤ t ∧ m - 10 ≤ t)
theorem pos_old {m : Int} {h : Hd} (e : (fsh m h.et && fsh m h.ot) = false) : posB m h = false ∧ posX m h = 0 ∧ posY m h = 0 := by
  have : posB m h = false := by
    unfold posB
    rw [decide_eq_false]
    · rfl
    · rintro ⟨a, b, c, d⟩
      have h1 : fsh m h.et = true := decide_eq_true ⟨a, c⟩
      have h2 : fsh m h.ot = true := decide_eq_true ⟨b, d⟩
      rw [h1, h2] at e; cases e
  exact ⟨this, by unfold posX; rw [this]; rfl, by unfold posY; rw [this]; rfl⟩
theorem pos_new {m : Int} {h : Hd} (e : (fsh m h.et && fsh m h.ot) = true) : posB m h = dpB h.eo h.ea h.eb h.oo h.oa h.ob ∧ posX m h = dpV h.eo h.ea h.eb h.oo h.oa h.ob h.ea h.oa ∧ posY m h = dpV h.eo h.ea h.eb h.oo h.oa h.ob h.eb h.ob := by
  rw [Bool.and_eq_true] at e
  have h1 := of_decide_eq_true e.1
  have h2 := of_decide_eq_true e.2
  have : posB m h = dpB h.eo h.ea h.eb h.oo h.oa h.ob := by
    unfold posB
    rw [decide_eq_true ⟨h1.1, h2.1, h1.2, h2.2⟩, Bool.true_and]
  refine ⟨this, ?_, ?_⟩
  · unfold posX dpV; rw [this]
  · unfold posY dpV; rw [this]

theorem isFresh (t m : Int) (hm : 0 ≤ m ∧ m ≤ 9999) (ht : At m t) (w : World) : Calls Try.prog 113 #[.int .i64 t, .int .i64 m] w fun e w' => e = .returned (.bool (fsh m t)) ∧ w = w' := by
  have hi := at_in hm ht
  unfold fsh
  by_cases h1 : t = -1
  · rw [decide_eq_false (by omega)]
    subst h1
    clear ht hi
    go_enter Try.func113, Try.ntmps113
    go_wp2_with fail
    go_ret
    exact ⟨rfl, rfl⟩
  · have g1 : (t != -1) = true := by simpa using h1
    have h0 : 0 ≤ t := by rcases ht with h | h <;> omega
    clear ht h1
    by_cases h2 : m - t ≤ 10
    · have g2 : decide (m - t ≤ 10) = true := decide_eq_true h2
      rw [decide_eq_true ⟨h0, by omega⟩]
      clear h2
      go_enter Try.func113, Try.ntmps113
      go_wp2_with fail
      go_ret
      exact ⟨rfl, rfl⟩
    · have g2 : decide (m - t ≤ 10) = false := decide_eq_false h2
      rw [decide_eq_false (by omega)]
      clear h2
      go_enter Try.func113, Try.ntmps113
      go_wp2_with fail
      go_ret
      exact ⟨rfl, rfl⟩

set_option maxRecDepth 100000 in
set_option maxHeartbeats 2000000 in
theorem positionBy (h : Hd) (m : Int) (hm : 0 ≤ m ∧ m ≤ 9999) (h1 : At m h.et) (h2 : At m h.ot) (w : World) :
    Calls Try.prog 109 #[.agg #[.int .i64 h.ad, .bool h.eo, .int .i64 h.ea, .int .i64 h.eb, .int .i64 h.et, .bool h.oo, .int .i64 h.oa, .int .i64 h.ob, .int .i64 h.ot, .int .i64 h.fr], .int .i64 m] w fun e w' => e = .returned (.tuple #[.agg #[.int .i64 (posX m h), .int .i64 (posY m h)], .bool (posB m h)]) ∧ Below w.heap.size w w' := by
  have B0 := Lib.hid ((newS 54 #[.int .i64 h.ad, .bool h.eo, .int .i64 h.ea, .int .i64 h.eb, .int .i64 h.et, .bool h.oo, .int .i64 h.oa, .int .i64 h.ob, .int .i64 h.ot, .int .i64 h.fr] w).alloc (.cells #[.int .i64 0, .int .i64 0] 25))
  have C0 := Lib.hid ((newS 54 #[.int .i64 h.ad, .bool h.eo, .int .i64 h.ea, .int .i64 h.eb, .int .i64 h.et, .bool h.oo, .int .i64 h.oa, .int .i64 h.ob, .int .i64 h.ot, .int .i64 h.fr] w).next 25 #[.int .i64 0, .int .i64 0])
  rw [World.size_alloc] at C0
  have F1 := Lib.hid (fun w => isFresh h.et m hm h1 w)
  have F2 := Lib.hid (fun w => isFresh h.ot m hm h2 w)
  have DP := Lib.hid (fun w => posm.decodePair h.eo h.ea h.eb h.oo h.oa h.ob w)
  have OLD := Lib.hid (fun e => pos_old (m := m) (h := h) e)
  have NEW := Lib.hid (fun e => pos_new (m := m) (h := h) e)
  generalize fsh m h.et = q1 at *
  generalize fsh m h.ot = q2 at *
  generalize dpB h.eo h.ea h.eb h.oo h.oa h.ob = O at *
  generalize dpV h.eo h.ea h.eb h.oo h.oa h.ob h.ea h.oa = X at *
  generalize dpV h.eo h.ea h.eb h.oo h.oa h.ob h.eb h.ob = Y at *
  clear h1 h2 hm
  go_enter Try.func109, Try.ntmps109
  go_wp2_with fail
  refine (F1.out _).mono ?_
  rintro e w' ⟨rfl, rfl⟩
  cases q1
  · have HP := Lib.hid (OLD.out (by cases q2 <;> rfl))
    have CZ := Lib.hid ((C0.out.set 0 (.int .i64 0)).set 1 (.int .i64 0))
    clear NEW OLD F2 DP
    go_wp2_with fail
    have hl := C0.out.load Try.underlying25 rfl (by kernel_rfl)
    first
      | (refine bodyPost_ret (v := .tuple #[.agg #[.int .i64 0, .int .i64 0], .bool false]) ?_ rfl ⟨by rw [HP.out.1, HP.out.2.1, HP.out.2.2], C0.out.1⟩
         rw [results_ct rfl]
         simp [asAddr, Result.andThen, hl]
         done)
  · go_wp2_with fail
    refine (F2.out _).mono ?_
    rintro e w' ⟨rfl, rfl⟩
    cases q2
    · have HP := Lib.hid (OLD.out rfl)
      clear NEW OLD DP
      go_wp2_with fail
      have hl := C0.out.load Try.underlying25 rfl (by kernel_rfl)
      refine bodyPost_ret (v := .tuple #[.agg #[.int .i64 0, .int .i64 0], .bool false]) ?_ rfl ⟨by rw [HP.out.1, HP.out.2.1, HP.out.2.2], C0.out.1⟩
      rw [results_ct rfl]
      simp [asAddr, Result.andThen, hl]
    · have HP := Lib.hid (NEW.out rfl)
      clear NEW OLD
      go_wp2_with fail
      refine (DP.out _).mono ?_
      rintro e V2 ⟨rfl, hb2⟩
      have C2 := Lib.hid (C0.out.old hb2)
      have c0 : V2.cell? ⟨w.heap.size + 1, 0, none⟩ = some (.int .i64 0) := C2.out.cell 0
      have c1 : V2.cell? ⟨w.heap.size + 1, 1, none⟩ = some (.int .i64 0) := C2.out.cell 1
      have f0 := C2.out.frozen 0
      have f1 := C2.out.frozen 1
      have HE := Lib.hid ((C2.out.set 0 (.int .i64 X)).set 1 (.int .i64 Y))
      clear B0 C0 C2 hb2 DP
      go_wp2_with fail
      have hl := HE.out.load Try.underlying25 rfl (by kernel_rfl)
      refine bodyPost_ret (v := .tuple #[.agg #[.int .i64 X, .int .i64 Y], .bool O]) ?_ rfl ⟨by rw [HP.out.1, HP.out.2.1, HP.out.2.2], HE.out.1⟩
      rw [results_ct rfl]
      simp [asAddr, Result.andThen, hl]

set_option maxRecDepth 100000 in
set_option maxHeartbeats 2000000 in
theorem position9 (m : Int) (A : Option Addr) (n c : Nat) (h : Hd) (hm : 0 ≤ m ∧ m ≤ 9999) (h1 : At m h.et) (h2 : At m h.ot) (w : World) :
    Calls Try.prog 108 #[.agg #[.int .i64 m, .slice A n c], .agg #[.int .i64 h.ad, .bool h.eo, .int .i64 h.ea, .int .i64 h.eb, .int .i64 h.et, .bool h.oo, .int .i64 h.oa, .int .i64 h.ob, .int .i64 h.ot, .int .i64 h.fr]] w fun e w' => e = .returned (.tuple #[.agg #[.int .i64 (posX m h), .int .i64 (posY m h)], .bool (posB m h)]) ∧ Below w.heap.size w w' := by
  have B0 := Lib.hid (((newS 46 #[.int .i64 m, .slice A n c] w).alloc (.cells #[.int .i64 h.ad, .bool h.eo, .int .i64 h.ea, .int .i64 h.eb, .int .i64 h.et, .bool h.oo, .int .i64 h.oa, .int .i64 h.ob, .int .i64 h.ot, .int .i64 h.fr] 54)).alloc (.cells #[.int .i64 0, .int .i64 0] 25))
  have C0 := Lib.hid (((newS 46 #[.int .i64 m, .slice A n c] w).alloc (.cells #[.int .i64 h.ad, .bool h.eo, .int .i64 h.ea, .int .i64 h.eb, .int .i64 h.et, .bool h.oo, .int .i64 h.oa, .int .i64 h.ob, .int .i64 h.ot, .int .i64 h.fr] 54)).next 25 #[.int .i64 0, .int .i64 0])
  rw [World.size_alloc, World.size_alloc] at C0
  have DP := Lib.hid (fun w => posu.decodePair h.eo h.ea h.eb h.oo h.oa h.ob w)
  have i1 := at_in hm h1
  have i2 := at_in hm h2
  have q1 : fsh m h.et = (!decide (h.et < 0) && !decide (h.et < m - 10)) := by
    unfold fsh
    by_cases a : h.et < 0
    · rw [decide_eq_true a, decide_eq_false (by omega)]; rfl
    · by_cases b : h.et < m - 10
      · rw [decide_eq_true b, decide_eq_false (by omega)]; simp
      · rw [decide_eq_false a, decide_eq_false b, decide_eq_true (by omega)]; rfl
  have q2 : fsh m h.ot = (!decide (h.ot < 0) && !decide (h.ot < m - 10)) := by
    unfold fsh
    by_cases a : h.ot < 0
    · rw [decide_eq_true a, decide_eq_false (by omega)]; rfl
    · by_cases b : h.ot < m - 10
      · rw [decide_eq_true b, decide_eq_false (by omega)]; simp
      · rw [decide_eq_false a, decide_eq_false b, decide_eq_true (by omega)]; rfl
  have OLD := Lib.hid (fun e => pos_old (m := m) (h := h) e)
  have NEW := Lib.hid (fun e => pos_new (m := m) (h := h) e)
  rw [q1, q2] at OLD NEW
  clear h1 h2 q1 q2
  generalize dpB h.eo h.ea h.eb h.oo h.oa h.ob = O at *
  generalize dpV h.eo h.ea h.eb h.oo h.oa h.ob h.ea h.oa = X at *
  generalize dpV h.eo h.ea h.eb h.oo h.oa h.ob h.eb h.ob = Y at *
  generalize hl : m - 10 = l at *
  have hl2 : IntKind.i64.wrap l = l := IntWalk.i64_in _ (by omega)
  have hl3 : wrap64 l = l := IntWalk.wrap64_in _ ⟨by omega, by omega⟩
  clear hm i1 i2
  generalize hr1 : decide (h.et < 0) = r1 at *
  generalize hr2 : decide (h.ot < 0) = r2 at *
  generalize hr3 : decide (h.et < l) = r3 at *
  generalize hr4 : decide (h.ot < l) = r4 at *
  cases r1 <;> cases r2 <;> cases r3 <;> cases r4
  rotate_left
  all_goals
    first
      | (have HP := Lib.hid (OLD.out rfl)
         clear NEW OLD DP
         go_enter Try.func108, Try.ntmps108
         go_wp2_with fail
         have hl := C0.out.load Try.underlying25 rfl (by kernel_rfl)
         refine bodyPost_ret (v := .tuple #[.agg #[.int .i64 0, .int .i64 0], .bool false]) ?_ rfl ⟨by rw [HP.out.1, HP.out.2.1, HP.out.2.2], C0.out.1⟩
         rw [results_ct rfl]
         simp [asAddr, Result.andThen, hl]
         done)
      | (have HP := Lib.hid (NEW.out rfl)
         clear NEW OLD
         go_enter Try.func108, Try.ntmps108
         go_wp2_with fail
         refine (DP.out _).mono ?_
         rintro e V2 ⟨rfl, hb2⟩
         have C2 := Lib.hid (C0.out.old hb2)
         have c0 : V2.cell? ⟨w.heap.size + 1 + 1, 0, none⟩ = some (.int .i64 0) := C2.out.cell 0
         have c1 : V2.cell? ⟨w.heap.size + 1 + 1, 1, none⟩ = some (.int .i64 0) := C2.out.cell 1
         have f0 := C2.out.frozen 0
         have f1 := C2.out.frozen 1
         have HE := Lib.hid ((C2.out.set 0 (.int .i64 X)).set 1 (.int .i64 Y))
         clear B0 C0 C2 hb2 DP
         go_wp2_with fail
         have hl := HE.out.load Try.underlying25 rfl (by kernel_rfl)
         refine bodyPost_ret (v := .tuple #[.agg #[.int .i64 X, .int .i64 Y], .bool O]) ?_ rfl ⟨by rw [HP.out.1, HP.out.2.1, HP.out.2.2], HE.out.1⟩
         rw [results_ct rfl]
         simp [asAddr, Result.andThen, hl]
         done)

theorem one_at {m : Int} {hs : List Hd} {k : Nat} (hv : vB m hs = true) (hk : k < hs.length) : (0 ≤ m ∧ m ≤ 9999) ∧ At m (hx hs k).et ∧ At m (hx hs k).ot := by
  obtain ⟨_, _, a, b⟩ := one_parts (v_one hv hk)
  exact ⟨(v_parts hv).1, half_time a, half_time b⟩
theorem pn_no {m : Int} {hs : List Hd} {x : Int} (h : hfB m hs x = false) : pnB m hs x = false ∧ pnX m hs x = 0 ∧ pnY m hs x = 0 := by
  refine ⟨?_, ?_, ?_⟩
  · unfold pnB; rw [h]; rfl
  · unfold pnX; rw [h]; rfl
  · unfold pnY; rw [h]; rfl
theorem pn_yes {m : Int} {hs : List Hd} {x : Int} (h : hfB m hs x = true) : pnB m hs x = posB m (hx hs (lead hs x)) ∧ pnX m hs x = posX m (hx hs (lead hs x)) ∧ pnY m hs x = posY m (hx hs (lead hs x)) := by
  refine ⟨?_, ?_, ?_⟩
  · unfold pnB; rw [h]; rfl
  · unfold pnX; rw [h]; rfl
  · unfold pnY; rw [h]; rfl
theorem hf_parts {m : Int} {hs : List Hd} {x : Int} (h : hfB m hs x = true) : vB m hs = true ∧ lead hs x < hs.length ∧ hfH m hs x = hx hs (lead hs x) := by
  have h2 := h
  unfold hfB at h2
  rw [Bool.and_eq_true] at h2
  exact ⟨h2.1, (known_iff.1 h2.2).1, by unfold hfH; rw [h]; rfl⟩

set_option maxRecDepth 100000 in
set_option maxHeartbeats 2000000 in
theorem implNow (m : Int) (hs : List Hd) (x : Int) (A : Option Addr) (c : Nat) (w : World) (hn : hs.length ≤ 1048577) (h : RdH w w.heap.size A hs) :
    Calls Try.prog 48 #[.agg #[.int .i64 m, .slice A hs.length c], .int .i64 x] w fun e w' => e = .returned (.tuple #[.agg #[.int .i64 (pnX m hs x), .int .i64 (pnY m hs x)], .bool (pnB m hs x)]) ∧ Below w.heap.size w w' := by
  have B0 := Lib.hid ((newS 46 #[.int .i64 m, .slice A hs.length c] w).alloc (.cells #[.int .i64 0, .int .i64 0] 25))
  have C0 := Lib.hid ((newS 46 #[.int .i64 m, .slice A hs.length c] w).next 25 #[.int .i64 0, .int .i64 0])
  rw [World.size_alloc] at C0
  have HF := Lib.hid (fun W (hb : Below w.heap.size w W) => heardFrom m hs x A c W hn (h.next hb))
  have NO := Lib.hid (fun (e : hfB m hs x = false) => pn_no e)
  have YE := Lib.hid (fun (e : hfB m hs x = true) => pn_yes e)
  have PB := Lib.hid (fun (e : hfB m hs x = true) W => positionBy (hfH m hs x) m (one_at (hf_parts e).1 (hf_parts e).2.1).1 (by rw [(hf_parts e).2.2]; exact (one_at (hf_parts e).1 (hf_parts e).2.1).2.1) (by rw [(hf_parts e).2.2]; exact (one_at (hf_parts e).1 (hf_parts e).2.1).2.2) W)
  have HH := Lib.hid (fun (e : hfB m hs x = true) => (hf_parts e).2.2)
  generalize hs.length = n at *
  clear h hn
  generalize hz : hfH m hs x = z at *
  clear hz
  go_enter Try.func48, Try.ntmps48
  go_wp2_with fail
  refine (HF.out _ B0.out.1).mono ?_
  rintro e V2 ⟨rfl, hb2⟩
  have B2 := Lib.hid ((B0.out.old hb2).alloc (.cells #[.int .i64 z.ad, .bool z.eo, .int .i64 z.ea, .int .i64 z.eb, .int .i64 z.et, .bool z.oo, .int .i64 z.oa, .int .i64 z.ob, .int .i64 z.ot, .int .i64 z.fr] 54))
  have C2 := Lib.hid ((C0.out.old hb2).alloc (.cells #[.int .i64 z.ad, .bool z.eo, .int .i64 z.ea, .int .i64 z.eb, .int .i64 z.et, .bool z.oo, .int .i64 z.oa, .int .i64 z.ob, .int .i64 z.ot, .int .i64 z.fr] 54))
  have D2 := Lib.hid ((B0.out.old hb2).next 54 #[.int .i64 z.ad, .bool z.eo, .int .i64 z.ea, .int .i64 z.eb, .int .i64 z.et, .bool z.oo, .int .i64 z.oa, .int .i64 z.ob, .int .i64 z.ot, .int .i64 z.fr])
  clear B0 C0 hb2 HF
  cases hf : hfB m hs x
  · have HP := Lib.hid (NO.out hf)
    clear NO YE PB HH hf
    go_upto_region 3 with fail
    generalize V2.alloc (.cells #[.int .i64 z.ad, .bool z.eo, .int .i64 z.ea, .int .i64 z.eb, .int .i64 z.et, .bool z.oo, .int .i64 z.oa, .int .i64 z.ob, .int .i64 z.ot, .int .i64 z.fr] 54) = V3 at *
    have c0 : V3.cell? ⟨w.heap.size + 1, 0, none⟩ = some (.int .i64 0) := C2.out.cell 0
    have c1 : V3.cell? ⟨w.heap.size + 1, 1, none⟩ = some (.int .i64 0) := C2.out.cell 1
    have f0 := C2.out.frozen 0
    have f1 := C2.out.frozen 1
    have HE := Lib.hid ((C2.out.set 0 (.int .i64 0)).set 1 (.int .i64 0))
    clear B2 C2 D2
    go_wp2_with fail
    have hl := HE.out.load Try.underlying25 rfl (by kernel_rfl)
    refine bodyPost_ret (v := .tuple #[.agg #[.int .i64 0, .int .i64 0], .bool false]) ?_ rfl ⟨by rw [HP.out.1, HP.out.2.1, HP.out.2.2], HE.out.1⟩
    rw [results_ct rfl]
    simp [asAddr, Result.andThen, hl]
  · have P1 := Lib.hid (PB.out hf)
    have HP := Lib.hid (YE.out hf)
    have HZ := Lib.hid (HH.out hf)
    clear NO YE PB HH hf
    go_upto_region 4 with fail
    generalize V2.alloc (.cells #[.int .i64 z.ad, .bool z.eo, .int .i64 z.ea, .int .i64 z.eb, .int .i64 z.et, .bool z.oo, .int .i64 z.oa, .int .i64 z.ob, .int .i64 z.ot, .int .i64 z.fr] 54) = V3 at *
    generalize V2.heap.size = g at *
    obtain ⟨d0, d1, d2, d3, d4, d5, d6, d7, d8, d9⟩ := ten D2.out
    have a0 : V3.cell? ⟨w.heap.size, 0, none⟩ = some (.int .i64 m) := B2.out.cell 0
    go_wp2_with fail
    refine (P1.out _).mono ?_
    rintro e V4 ⟨rfl, hb4⟩
    have C4 := Lib.hid (C2.out.old hb4)
    clear d0 d1 d2 d3 d4 d5 d6 d7 d8 d9 a0 B2 C2 D2 hb4
    rw [← HZ.out] at HP
    generalize posX m z = X at *
    generalize posY m z = Y at *
    generalize posB m z = O at *
    have c0 : V4.cell? ⟨w.heap.size + 1, 0, none⟩ = some (.int .i64 0) := C4.out.cell 0
    have c1 : V4.cell? ⟨w.heap.size + 1, 1, none⟩ = some (.int .i64 0) := C4.out.cell 1
    have f0 := C4.out.frozen 0
    have f1 := C4.out.frozen 1
    have HE := Lib.hid ((C4.out.set 0 (.int .i64 X)).set 1 (.int .i64 Y))
    clear C4
    go_wp2_with fail
    have hl := HE.out.load Try.underlying25 rfl (by kernel_rfl)
    refine bodyPost_ret (v := .tuple #[.agg #[.int .i64 X, .int .i64 Y], .bool O]) ?_ rfl ⟨by rw [HP.out.1, HP.out.2.1, HP.out.2.2], HE.out.1⟩
    rw [results_ct rfl]
    simp [asAddr, Result.andThen, hl]

set_option maxRecDepth 100000 in
set_option maxHeartbeats 4000000 in
theorem specNow (m : Int) (hs : List Hd) (x : Int) (A : Option Addr) (c : Nat) (w : World) (hn : hs.length ≤ 1048577) (h : RdH w w.heap.size A hs) :
    Calls Try.prog 47 #[.agg #[.int .i64 m, .slice A hs.length c], .int .i64 x] w fun e w' => e = .returned (.tuple #[.agg #[.int .i64 (pnX m hs x), .int .i64 (pnY m hs x)], .bool (pnB m hs x)]) ∧ Below w.heap.size w w' := by
  have B0 := Lib.hid ((newS 46 #[.int .i64 m, .slice A hs.length c] w).alloc (.cells #[.int .i64 0, .int .i64 0] 25))
  have C0 := Lib.hid ((newS 46 #[.int .i64 m, .slice A hs.length c] w).next 25 #[.int .i64 0, .int .i64 0])
  rw [World.size_alloc] at C0
  have HR := Lib.hid (fun (wr : World) (hb : Below w.heap.size w wr) => h.below hb (Nat.le_refl _))
  have FD := Lib.hid (fun W (hb : Below w.heap.size w W) => rcvf.find9 m x hs A c W hn (h.next hb))
  have GD := Lib.hid (fun W (hb : Below w.heap.size w W) => rcva.good9 m hs A c W hn (h.next hb))
  have KN := Lib.hid (fun (h : known hs x = true) => fi_known h)
  have UN := Lib.hid (fun (hv : vB m hs = true) (h : known hs x = false) => fi_unknown hv h)
  have KI := Lib.hid (fun (h : known hs x = true) => (known_iff.1 h).1)
  have NO := Lib.hid (fun (e : hfB m hs x = false) => pn_no e)
  have YE := Lib.hid (fun (e : hfB m hs x = true) => pn_yes e)
  have AT := Lib.hid (fun (e : hfB m hs x = true) => one_at (hf_parts e).1 (hf_parts e).2.1)
  generalize hi : fiI hs x = i at *
  clear hi
  generalize hN : hs.length = n at *
  have HN := Lib.hid hN
  clear h hN
  go_enter Try.func47, Try.ntmps47
  go_wp2_with fail
  refine (FD.out _ B0.out.1).mono ?_
  rintro e V2 ⟨rfl, hb2⟩
  have B2 := Lib.hid (B0.out.old hb2)
  have C2 := Lib.hid (C0.out.old hb2)
  clear B0 C0 hb2 FD
  have a0 : V2.cell? ⟨w.heap.size, 0, none⟩ = some (.int .i64 m) := B2.out.cell 0
  have a1 : V2.cell? ⟨w.heap.size, 1, none⟩ = some (.slice A n c) := B2.out.cell 1
  go_wp2_with fail
  refine (GD.out _ B2.out.1).mono ?_
  rintro e V3 ⟨rfl, hb3⟩
  have B3 := Lib.hid (B2.out.old hb3)
  have C3 := Lib.hid (C2.out.old hb3)
  clear B2 C2 hb3 GD a0 a1
  have c0 : V3.cell? ⟨w.heap.size + 1, 0, none⟩ = some (.int .i64 0) := C3.out.cell 0
  have c1 : V3.cell? ⟨w.heap.size + 1, 1, none⟩ = some (.int .i64 0) := C3.out.cell 1
  have f0 := C3.out.frozen 0
  have f1 := C3.out.frozen 1
  have HZ := Lib.hid ((C3.out.set 0 (.int .i64 0)).set 1 (.int .i64 0))
  cases hv : vB m hs
  · have HP := Lib.hid (NO.out (hf_bad hv).1)
    clear hv KN UN KI NO YE AT
    go_wp2_with fail
    have hl := HZ.out.load Try.underlying25 rfl (by kernel_rfl)
    refine bodyPost_ret (v := .tuple #[.agg #[.int .i64 0, .int .i64 0], .bool false]) ?_ rfl ⟨by rw [HP.out.1, HP.out.2.1, HP.out.2.2], HZ.out.1⟩
    rw [results_ct rfl]
    simp [asAddr, Result.andThen, hl]
  · cases hk : known hs x
    · have HP := Lib.hid (NO.out (hf_no hk).1)
      obtain rfl := UN.out hv hk
      clear hv hk KN UN KI NO YE AT
      go_wp2_with fail
      have hl := HZ.out.load Try.underlying25 rfl (by kernel_rfl)
      refine bodyPost_ret (v := .tuple #[.agg #[.int .i64 0, .int .i64 0], .bool false]) ?_ rfl ⟨by rw [HP.out.1, HP.out.2.1, HP.out.2.2], HZ.out.1⟩
      rw [results_ct rfl]
      simp [asAddr, Result.andThen, hl]
    · have HP := Lib.hid (YE.out (hf_yes hv hk).1)
      obtain ⟨m0, z1, z2⟩ := AT.out (hf_yes hv hk).1
      obtain rfl := KN.out hk
      have hlt := KI.out hk
      clear hv hk KN UN KI NO YE AT c0 c1 f0 f1 HZ
      generalize lead hs x = k at *
      have gi : decide ((k : Int) < 0) = false := decide_eq_false (by omega)
      have hlt2 : (k : Int) < (n : Int) := by omega
      obtain ⟨b, o, rfl, hbl, c0, c1, c2, c3, c4, c5, c6, c7, c8, c9⟩ := (HR.out V3 B3.out.1).cells (k := k) (by rw [HN.out]; exact hlt)
      generalize hx hs k = z at *
      have PO := Lib.hid (fun w => position9 m (some ⟨b, o, none⟩) n c z m0 z1 z2 w)
      have hbV : b < V3.heap.size := Nat.lt_of_lt_of_le hbl B3.out.1.size
      have NBC := Lib.hid (show w.heap.size + 1 ≠ b by omega)
      have NBB := Lib.hid (show w.heap.size + 1 ≠ w.heap.size by omega)
      clear m0 z1 z2 HR
      generalize posX m z = X at *
      generalize posY m z = Y at *
      generalize posB m z = O at *
      go_upto_region 4 with fail
      have CS := Lib.hid (show ∀ WZ : World, Below V3.heap.size V3 WZ → WZ.cell? ⟨w.heap.size, 0, none⟩ = some (.int .i64 m) ∧ WZ.cell? ⟨w.heap.size, 1, none⟩ = some (.slice (some ⟨b, o, none⟩) n c) ∧ WZ.cell? ⟨b, o + k * 10, none⟩ = some (.int .i64 z.ad) ∧ WZ.cell? ⟨b, o + k * 10 + 1, none⟩ = some (.bool z.eo) ∧ WZ.cell? ⟨b, o + k * 10 + 2, none⟩ = some (.int .i64 z.ea) ∧ WZ.cell? ⟨b, o + k * 10 + 3, none⟩ = some (.int .i64 z.eb) ∧ WZ.cell? ⟨b, o + k * 10 + 4, none⟩ = some (.int .i64 z.et) ∧ WZ.cell? ⟨b, o + k * 10 + 5, none⟩ = some (.bool z.oo) ∧ WZ.cell? ⟨b, o + k * 10 + 6, none⟩ = some (.int .i64 z.oa) ∧ WZ.cell? ⟨b, o + k * 10 + 7, none⟩ = some (.int .i64 z.ob) ∧ WZ.cell? ⟨b, o + k * 10 + 8, none⟩ = some (.int .i64 z.ot) ∧ WZ.cell? ⟨b, o + k * 10 + 9, none⟩ = some (.int .i64 z.fr) from fun WZ hz => And.intro (posx.at_cell (B3.out.old hz) 0 (.int .i64 m) rfl) (And.intro (posx.at_cell (B3.out.old hz) 1 (.slice (some ⟨b, o, none⟩) n c) rfl) (And.intro ((hz.cell (p := ⟨b, o + k * 10, none⟩) hbV).trans c0) (And.intro ((hz.cell (p := ⟨b, o + k * 10 + 1, none⟩) hbV).trans c1) (And.intro ((hz.cell (p := ⟨b, o + k * 10 + 2, none⟩) hbV).trans c2) (And.intro ((hz.cell (p := ⟨b, o + k * 10 + 3, none⟩) hbV).trans c3) (And.intro ((hz.cell (p := ⟨b, o + k * 10 + 4, none⟩) hbV).trans c4) (And.intro ((hz.cell (p := ⟨b, o + k * 10 + 5, none⟩) hbV).trans c5) (And.intro ((hz.cell (p := ⟨b, o + k * 10 + 6, none⟩) hbV).trans c6) (And.intro ((hz.cell (p := ⟨b, o + k * 10 + 7, none⟩) hbV).trans c7) (And.intro ((hz.cell (p := ⟨b, o + k * 10 + 8, none⟩) hbV).trans c8) ((hz.cell (p := ⟨b, o + k * 10 + 9, none⟩) hbV).trans c9))))))))))))
      clear c0 c1 c2 c3 c4 c5 c6 c7 c8 c9
      go_region_held3 (fun w' => w'.cell? ⟨w.heap.size, 0, none⟩ = some (.int .i64 m) ∧ w'.cell? ⟨w.heap.size, 1, none⟩ = some (.slice (some ⟨b, o, none⟩) n c) ∧ w'.cell? ⟨b, o + k * 10, none⟩ = some (.int .i64 z.ad) ∧ w'.cell? ⟨b, o + k * 10 + 1, none⟩ = some (.bool z.eo) ∧ w'.cell? ⟨b, o + k * 10 + 2, none⟩ = some (.int .i64 z.ea) ∧ w'.cell? ⟨b, o + k * 10 + 3, none⟩ = some (.int .i64 z.eb) ∧ w'.cell? ⟨b, o + k * 10 + 4, none⟩ = some (.int .i64 z.et) ∧ w'.cell? ⟨b, o + k * 10 + 5, none⟩ = some (.bool z.oo) ∧ w'.cell? ⟨b, o + k * 10 + 6, none⟩ = some (.int .i64 z.oa) ∧ w'.cell? ⟨b, o + k * 10 + 7, none⟩ = some (.int .i64 z.ob) ∧ w'.cell? ⟨b, o + k * 10 + 8, none⟩ = some (.int .i64 z.ot) ∧ w'.cell? ⟨b, o + k * 10 + 9, none⟩ = some (.int .i64 z.fr)) (first
        | with_reducible exact CS.out _ (Below.refl V3.heap.size V3).drew
        | with_reducible exact CS.out _ (by assumption)
        | (have q := KS.out; with_reducible exact q)
        | go_keep) (first
        | (go_at_call 108; (with_reducible refine (PO.out _).mono ?_); rintro e w' ⟨rfl, hb⟩
           have hbl2 := posx.bl_next (V := V3) (by first | exact (Below.refl V3.heap.size V3).drew | assumption) hb
           have C4 := Lib.hid (C3.out.old hbl2)
           have c0 : w'.cell? ⟨w.heap.size + 1, 0, none⟩ = some (.int .i64 0) := C4.out.cell 0
           have c1 : w'.cell? ⟨w.heap.size + 1, 1, none⟩ = some (.int .i64 0) := C4.out.cell 1
           have f0 := C4.out.frozen 0
           have f1 := C4.out.frozen 1
           have sS := CS.out _ hbl2
           have KS := Lib.hid (show ((w'.setCell ⟨w.heap.size + 1, 0, none⟩ (.int .i64 X)).setCell ⟨w.heap.size + 1, 1, none⟩ (.int .i64 Y)).cell? ⟨w.heap.size, 0, none⟩ = some (.int .i64 m) ∧ ((w'.setCell ⟨w.heap.size + 1, 0, none⟩ (.int .i64 X)).setCell ⟨w.heap.size + 1, 1, none⟩ (.int .i64 Y)).cell? ⟨w.heap.size, 1, none⟩ = some (.slice (some ⟨b, o, none⟩) n c) ∧ ((w'.setCell ⟨w.heap.size + 1, 0, none⟩ (.int .i64 X)).setCell ⟨w.heap.size + 1, 1, none⟩ (.int .i64 Y)).cell? ⟨b, o + k * 10, none⟩ = some (.int .i64 z.ad) ∧ ((w'.setCell ⟨w.heap.size + 1, 0, none⟩ (.int .i64 X)).setCell ⟨w.heap.size + 1, 1, none⟩ (.int .i64 Y)).cell? ⟨b, o + k * 10 + 1, none⟩ = some (.bool z.eo) ∧ ((w'.setCell ⟨w.heap.size + 1, 0, none⟩ (.int .i64 X)).setCell ⟨w.heap.size + 1, 1, none⟩ (.int .i64 Y)).cell? ⟨b, o + k * 10 + 2, none⟩ = some (.int .i64 z.ea) ∧ ((w'.setCell ⟨w.heap.size + 1, 0, none⟩ (.int .i64 X)).setCell ⟨w.heap.size + 1, 1, none⟩ (.int .i64 Y)).cell? ⟨b, o + k * 10 + 3, none⟩ = some (.int .i64 z.eb) ∧ ((w'.setCell ⟨w.heap.size + 1, 0, none⟩ (.int .i64 X)).setCell ⟨w.heap.size + 1, 1, none⟩ (.int .i64 Y)).cell? ⟨b, o + k * 10 + 4, none⟩ = some (.int .i64 z.et) ∧ ((w'.setCell ⟨w.heap.size + 1, 0, none⟩ (.int .i64 X)).setCell ⟨w.heap.size + 1, 1, none⟩ (.int .i64 Y)).cell? ⟨b, o + k * 10 + 5, none⟩ = some (.bool z.oo) ∧ ((w'.setCell ⟨w.heap.size + 1, 0, none⟩ (.int .i64 X)).setCell ⟨w.heap.size + 1, 1, none⟩ (.int .i64 Y)).cell? ⟨b, o + k * 10 + 6, none⟩ = some (.int .i64 z.oa) ∧ ((w'.setCell ⟨w.heap.size + 1, 0, none⟩ (.int .i64 X)).setCell ⟨w.heap.size + 1, 1, none⟩ (.int .i64 Y)).cell? ⟨b, o + k * 10 + 7, none⟩ = some (.int .i64 z.ob) ∧ ((w'.setCell ⟨w.heap.size + 1, 0, none⟩ (.int .i64 X)).setCell ⟨w.heap.size + 1, 1, none⟩ (.int .i64 Y)).cell? ⟨b, o + k * 10 + 8, none⟩ = some (.int .i64 z.ot) ∧ ((w'.setCell ⟨w.heap.size + 1, 0, none⟩ (.int .i64 X)).setCell ⟨w.heap.size + 1, 1, none⟩ (.int .i64 Y)).cell? ⟨b, o + k * 10 + 9, none⟩ = some (.int .i64 z.fr) from And.intro ((World.cell?_setCell_far _ ⟨w.heap.size + 1, 1, none⟩ ⟨w.heap.size, 0, none⟩ _ NBB.out).trans ((World.cell?_setCell_far _ ⟨w.heap.size + 1, 0, none⟩ ⟨w.heap.size, 0, none⟩ _ NBB.out).trans sS.1)) (And.intro ((World.cell?_setCell_far _ ⟨w.heap.size + 1, 1, none⟩ ⟨w.heap.size, 1, none⟩ _ NBB.out).trans ((World.cell?_setCell_far _ ⟨w.heap.size + 1, 0, none⟩ ⟨w.heap.size, 1, none⟩ _ NBB.out).trans sS.2.1)) (And.intro ((World.cell?_setCell_far _ ⟨w.heap.size + 1, 1, none⟩ ⟨b, o + k * 10, none⟩ _ NBC.out).trans ((World.cell?_setCell_far _ ⟨w.heap.size + 1, 0, none⟩ ⟨b, o + k * 10, none⟩ _ NBC.out).trans sS.2.2.1)) (And.intro ((World.cell?_setCell_far _ ⟨w.heap.size + 1, 1, none⟩ ⟨b, o + k * 10 + 1, none⟩ _ NBC.out).trans ((World.cell?_setCell_far _ ⟨w.heap.size + 1, 0, none⟩ ⟨b, o + k * 10 + 1, none⟩ _ NBC.out).trans sS.2.2.2.1)) (And.intro ((World.cell?_setCell_far _ ⟨w.heap.size + 1, 1, none⟩ ⟨b, o + k * 10 + 2, none⟩ _ NBC.out).trans ((World.cell?_setCell_far _ ⟨w.heap.size + 1, 0, none⟩ ⟨b, o + k * 10 + 2, none⟩ _ NBC.out).trans sS.2.2.2.2.1)) (And.intro ((World.cell?_setCell_far _ ⟨w.heap.size + 1, 1, none⟩ ⟨b, o + k * 10 + 3, none⟩ _ NBC.out).trans ((World.cell?_setCell_far _ ⟨w.heap.size + 1, 0, none⟩ ⟨b, o + k * 10 + 3, none⟩ _ NBC.out).trans sS.2.2.2.2.2.1)) (And.intro ((World.cell?_setCell_far _ ⟨w.heap.size + 1, 1, none⟩ ⟨b, o + k * 10 + 4, none⟩ _ NBC.out).trans ((World.cell?_setCell_far _ ⟨w.heap.size + 1, 0, none⟩ ⟨b, o + k * 10 + 4, none⟩ _ NBC.out).trans sS.2.2.2.2.2.2.1)) (And.intro ((World.cell?_setCell_far _ ⟨w.heap.size + 1, 1, none⟩ ⟨b, o + k * 10 + 5, none⟩ _ NBC.out).trans ((World.cell?_setCell_far _ ⟨w.heap.size + 1, 0, none⟩ ⟨b, o + k * 10 + 5, none⟩ _ NBC.out).trans sS.2.2.2.2.2.2.2.1)) (And.intro ((World.cell?_setCell_far _ ⟨w.heap.size + 1, 1, none⟩ ⟨b, o + k * 10 + 6, none⟩ _ NBC.out).trans ((World.cell?_setCell_far _ ⟨w.heap.size + 1, 0, none⟩ ⟨b, o + k * 10 + 6, none⟩ _ NBC.out).trans sS.2.2.2.2.2.2.2.2.1)) (And.intro ((World.cell?_setCell_far _ ⟨w.heap.size + 1, 1, none⟩ ⟨b, o + k * 10 + 7, none⟩ _ NBC.out).trans ((World.cell?_setCell_far _ ⟨w.heap.size + 1, 0, none⟩ ⟨b, o + k * 10 + 7, none⟩ _ NBC.out).trans sS.2.2.2.2.2.2.2.2.2.1)) (And.intro ((World.cell?_setCell_far _ ⟨w.heap.size + 1, 1, none⟩ ⟨b, o + k * 10 + 8, none⟩ _ NBC.out).trans ((World.cell?_setCell_far _ ⟨w.heap.size + 1, 0, none⟩ ⟨b, o + k * 10 + 8, none⟩ _ NBC.out).trans sS.2.2.2.2.2.2.2.2.2.2.1)) ((World.cell?_setCell_far _ ⟨w.heap.size + 1, 1, none⟩ ⟨b, o + k * 10 + 9, none⟩ _ NBC.out).trans ((World.cell?_setCell_far _ ⟨w.heap.size + 1, 0, none⟩ ⟨b, o + k * 10 + 9, none⟩ _ NBC.out).trans sS.2.2.2.2.2.2.2.2.2.2.2)))))))))))))
           have HE := Lib.hid ((C4.out.set 0 (.int .i64 X)).set 1 (.int .i64 Y))
           clear hb sS))
      all_goals
        go_wp2_with fail
        have hl := HE.out.load Try.underlying25 rfl (by kernel_rfl)
        refine bodyPost_ret (v := .tuple #[.agg #[.int .i64 X, .int .i64 Y], .bool O]) ?_ rfl ⟨by rw [HP.out.1, HP.out.2.1, HP.out.2.2], HE.out.1⟩
        rw [results_ct rfl]
        simp [asAddr, Result.andThen, hl]
end Go.Proofs.Ytdeghpihcddlgaa.rcvh
