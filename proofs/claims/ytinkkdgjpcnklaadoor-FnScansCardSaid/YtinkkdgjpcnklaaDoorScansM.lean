/- For every code of at most 65536 bytes (and trivially for a longer one) the law FnScans returns true: scans, misses and confirmed tracks are those of the model; a scan leaves valid tracks and counts the dropped ones; a scan without hits is a miss of every track, one after the other; confirmed are those with three hits and more. The two variables of the card hold what the program lays there. -/
import Derived.Test.YtinkkdgjpcnklaaDoorTrkM
import Derived.Test.YtinkkdgjpcnklaaDoorTrkE
import Derived.BigQuiet
import Derived.WalkKit
import Derived.Test.YtinkkdgjpcnklaaDoorDrawU14
import Derived.Test.YtinkkdgjpcnklaaDoorCards
import Derived.Test.YtinkkdgjpcnklaaDoorTie
import Derived.Test.YtinkkdgjpcnklaaDoorErL
import Derived.Test.YtinkkdgjpcnklaaDoorTrkG
import Derived.Test.YtinkkdgjpcnklaaDoorTrkX
import Derived.Test.YtinkkdgjpcnklaaDoorTrkU
import Derived.Test.YtinkkdgjpcnklaaDoorTrkY
import Derived.Test.YtinkkdgjpcnklaaDoorVInt
import Derived.Test.YtinkkdgjpcnklaaDoorPlcE
import Derived.Test.YtinkkdgjpcnklaaDoorIntC
import Derived.Test.YtinkkdgjpcnklaaDoorCode
import Derived.ProofKit
import Derived.OpenShut
import Derived.ShutString
import Derived.ChangeOld
import Derived.Below
import Derived.Deep.QuietTactic
import Derived.Deep.RegionHeld3
import Derived.Deep.CutRange
import Derived.Deep.CutBlock
import Derived.Stop.LaidErr
import Derived.Deep.DeepHandedRow
import Derived.Lib.LaidTab
import Derived.OpenVars

/- Mathematics of FnScans and FnTracks: a scan keeps a list valid and drops what is missing; a track is confirmed if it has three hits. -/
namespace Go.Proofs.YtinkkdgjpcnklaaDoor.trkn
open Go.Proofs.YtinkkdgjpcnklaaDoor.in_ Go.Proofs.YtinkkdgjpcnklaaDoor.lst Go.Proofs.YtinkkdgjpcnklaaDoor.pos Go.Proofs.YtinkkdgjpcnklaaDoor.trk Go.Proofs.YtinkkdgjpcnklaaDoor.trkm

theorem sc_parts {zs ids ps : List Int} {n m q : Nat} (h : scB zs n ids m ps q = true) : tvB zs n = true ∧ chB (scanC zs ids m ps) n = true := by
  unfold scB haB at h
  rw [Bool.and_eq_true, Bool.and_eq_true, Bool.and_eq_true, Bool.and_eq_true] at h
  exact ⟨h.2.2.1.1, h.2.2.2⟩
theorem scan_valid {zs ids ps : List Int} {n m q : Nat} (h : scB zs n ids m ps q = true) : tvB (scL zs n ids m ps q) (scN zs n ids m ps q) = true ∧ scN zs n ids m ps q + scD zs n ids m ps q = n := by
  obtain ⟨hz, hc⟩ := sc_parts h
  obtain ⟨h1, h2, h3⟩ := scan_yes h
  obtain ⟨g1, g2, g3⟩ := any_is hc
  have h4 := any_ok (ids := ids) (m := m) (ps := ps) hz
  rw [g1, g2, hc] at h4
  have h5 := chN_le (scanC zs ids m ps) n
  have h6 := (tvB_yes hz).2
  rw [h1, h2, h3]
  refine ⟨?_, h5⟩
  unfold tvB
  rw [h4, decide_eq_true (by omega)]; rfl
theorem cf_in {zs : List Int} {x : Int} {n : Nat} : x ∈ cfT zs n ↔ ∃ j, j < n ∧ fld 6 zs j 1 ≠ 1 ∧ fld 6 zs j 0 = x := by
  induction n with
  | zero => simp [cfT]
  | succ n ih =>
    rw [cfT]
    split
    · rename_i h1
      rw [ih]
      constructor
      · rintro ⟨j, hj, h⟩; exact ⟨j, by omega, h⟩
      · rintro ⟨j, hj, h2, h3⟩
        refine ⟨j, ?_, h2, h3⟩
        rcases Nat.lt_or_ge j n with h | h
        · exact h
        · obtain rfl : j = n := by omega
          exact absurd h1 h2
    · rename_i h1
      rw [List.mem_append, ih, List.mem_singleton]
      constructor
      · rintro (⟨j, hj, h⟩ | rfl)
        · exact ⟨j, by omega, h⟩
        · exact ⟨n, by omega, h1, rfl⟩
      · rintro ⟨j, hj, h2, h3⟩
        rcases Nat.lt_or_ge j n with h | h
        · exact Or.inl ⟨j, h, h2, h3⟩
        · obtain rfl : j = n := by omega
          exact Or.inr h3.symm
theorem hits_three {i s x y h l : Int} (hv : tkB i s x y h l = true) : s ≠ 1 ↔ 3 ≤ h := by
  obtain ⟨-, -, hh, hl, h0, hs⟩ := tkB_yes hv
  unfold sw at hs
  split at hs <;> split at hs <;> omega
theorem cf_mem {zs : List Int} {n k : Nat} (hz : tvB zs n = true) (hk : k < n) : fld 6 zs k 0 ∈ cfT zs n ↔ 3 ≤ fld 6 zs k 4 := by
  have hv : tkB _ _ _ _ _ _ = true := tv_at hz hk
  rw [cf_in, ← hits_three hv]
  constructor
  · rintro ⟨j, hj, h1, h2⟩
    obtain rfl := tv_one hz hj hk h2
    exact h1
  · intro h; exact ⟨k, hk, h, rfl⟩
/- Missing the tracks one after another. -/
def mC (zs : List Int) (i k : Nat) : Option (List Int) := if k < i then missC zs k else some (row zs k)
def mL (zs : List Int) (i : Nat) : List Int := chL (missC zs) i ++ zs.drop (i * 6)
def mN (zs : List Int) (n i : Nat) : Nat := chN (missC zs) i + (n - i)
theorem miss_fit {zs : List Int} (k : Nat) : missC zs k = some [] ∨ ∃ s x y h l, missC zs k = some (six (fld 6 zs k 0) s x y h l) ∧ tkB (fld 6 zs k 0) s x y h l = true := by
  cases ho : missOk zs k
  · rw [missC_no ho]; exact Or.inl rfl
  · rw [missC_yes ho]; exact Or.inr (miss_at ho)
theorem m_is {zs : List Int} {n i : Nat} (hl : zs.length = n * 6) : ∀ k, i ≤ k → k ≤ n → chL (mC zs i) k = chL (missC zs) i ++ (zs.take (k * 6)).drop (i * 6) ∧ chN (mC zs i) k = chN (missC zs) i + (k - i) := by
  have h0 : chL (mC zs i) i = chL (missC zs) i ∧ chN (mC zs i) i = chN (missC zs) i := by
    have := chL_congr (c := mC zs i) (d := missC zs) (n := i) (fun k hk => by unfold mC; rw [if_pos hk])
    exact ⟨this.1, this.2.1⟩
  intro k
  induction k with
  | zero =>
    intro h _
    obtain rfl : i = 0 := by omega
    exact ⟨by simp [chL], rfl⟩
  | succ k ih =>
    intro hi hk
    rcases Nat.lt_or_ge k i with h | h
    · obtain rfl : i = k + 1 := by omega
      rw [h0.1, h0.2, List.drop_eq_nil_of_le (by rw [List.length_take]; omega), List.append_nil, Nat.sub_self]
      exact ⟨rfl, rfl⟩
    · obtain ⟨h1, h2⟩ := ih h (by omega)
      have hc : mC zs i k = some (row zs k) := by unfold mC; rw [if_neg (by omega)]
      rw [chL, chN, h1, h2, hc, if_neg (fun e => by injection e with e; cases e), take_row hl (by omega), List.drop_append_of_le_length (by rw [List.length_take]; omega), List.append_assoc]
      exact ⟨rfl, by omega⟩
theorem m_all {zs : List Int} {n i : Nat} (hl : zs.length = n * 6) (hi : i ≤ n) : chL (mC zs i) n = mL zs i ∧ chN (mC zs i) n = mN zs n i := by
  have := m_is (i := i) hl n hi (Nat.le_refl _)
  rw [← hl, List.take_length] at this
  exact this
theorem m_len {zs : List Int} {n i : Nat} (hz : tvB zs n = true) (hi : i ≤ n) : (chL (missC zs) i).length = chN (missC zs) i * 6 := (chL_ok hz (fun k _ => miss_fit k) i hi).1
theorem m_ok {zs : List Int} {n i : Nat} (hz : tvB zs n = true) (hl : zs.length = n * 6) (hi : i ≤ n) : tvB (mL zs i) (mN zs n i) = true ∧ (mL zs i).length = mN zs n i * 6 := by
  have h := chL_ok (c := mC zs i) hz (fun k hk => by
    unfold mC
    split
    · exact miss_fit k
    · exact Or.inr (row_at hz hk)) n (Nat.le_refl _)
  have h5 := chN_le (mC zs i) n
  rw [(m_all hl hi).1, (m_all hl hi).2] at h
  rw [(m_all hl hi).2] at h5
  have h6 := (tvB_yes hz).2
  refine ⟨?_, h.1⟩
  unfold tvB
  rw [h.2.1, decide_eq_true (by omega)]; rfl
theorem m_row {zs : List Int} {n i j : Nat} (hz : tvB zs n = true) (hi : i < n) (hj : j < 6) : fld 6 (mL zs i) (chN (missC zs) i) j = fld 6 zs i j := by
  unfold mL
  rw [fld_new (m_len hz (by omega)) hj, List.getD_eq_getElem?_getD, List.getElem?_drop]
  unfold fld
  rw [List.getD_eq_getElem?_getD]
theorem m_put {zs r : List Int} {n i : Nat} (hz : tvB zs n = true) (hi : i < n) : putR (mL zs i) (chN (missC zs) i) r = chL (missC zs) i ++ r ++ zs.drop ((i + 1) * 6) := by
  have hl := m_len hz (show i ≤ n by omega)
  unfold putR mL
  rw [← hl, List.take_left, show (chN (missC zs) i + 1) * 6 = (chL (missC zs) i).length + 6 by omega, ← List.drop_drop, List.drop_left, List.drop_drop, show i * 6 + 6 = (i + 1) * 6 by omega]
theorem m_step {zs : List Int} {n i : Nat} (hz : tvB zs n = true) (hl : zs.length = n * 6) (hi : i < n) : miB (mL zs i) (mN zs n i) (fld 6 zs i 0) = true ∧ miL (mL zs i) (mN zs n i) (fld 6 zs i 0) = mL zs (i + 1) ∧ miN (mL zs i) (mN zs n i) (fld 6 zs i 0) = mN zs n (i + 1) := by
  obtain ⟨h1, h2⟩ := m_ok hz hl (show i ≤ n by omega)
  obtain ⟨g0, g1, g2⟩ := miss_put h1 h2 (i := chN (missC zs) i) (d := fld 6 zs i 0) (by unfold mN; omega) (m_row hz hi (by omega))
  have e1 : missOk (mL zs i) (chN (missC zs) i) = missOk zs i := by
    unfold missOk
    rw [m_row hz hi (by omega), m_row hz hi (by omega), m_row hz hi (by omega), m_row hz hi (by omega), m_row hz hi (by omega)]
  have e2 : missR (mL zs i) (chN (missC zs) i) = missR zs i := by
    unfold missR
    rw [m_row hz hi (by omega), m_row hz hi (by omega), m_row hz hi (by omega), m_row hz hi (by omega), m_row hz hi (by omega)]
  rw [e1] at g1 g2
  rw [e2] at g1
  refine ⟨g0, ?_⟩
  cases ho : missOk zs i
  · obtain ⟨a, b⟩ := g2 ho
    rw [a, b, m_put hz hi]
    unfold mL mN
    rw [chL, chN, missC_no ho, if_pos rfl]
    exact ⟨rfl, by omega⟩
  · obtain ⟨a, b⟩ := g1 ho
    rw [a, b, m_put hz hi]
    unfold mL mN
    rw [chL, chN, missC_yes ho, if_neg (fun e => by injection e with e; cases e)]
    exact ⟨rfl, by omega⟩
theorem m_none {zs : List Int} {n : Nat} (hz : tvB zs n = true) (hl : zs.length = n * 6) : scB zs n [] 0 [] 0 = true ∧ scL zs n [] 0 [] 0 = mL zs n ∧ scN zs n [] 0 [] 0 = mN zs n n ∧ scD zs n [] 0 [] 0 + mN zs n n = n := by
  have hc : ∀ k, k < n → scanC zs [] 0 [] k = missC zs k := fun k _ => by unfold scanC; rw [if_neg (by omega)]
  obtain ⟨c1, c2, c3, c4⟩ := chL_congr hc
  have hb : chB (missC zs) n = true := chB_of (fun k _ => missC_some zs k)
  have hs : scB zs n [] 0 [] 0 = true := by
    unfold scB haB
    rw [hz, c4, hb]
    rfl
  obtain ⟨d1, d2, d3⟩ := scan_yes hs
  have h5 := chN_le (missC zs) n
  rw [d1, d2, d3, c1, c2, c3]
  refine ⟨hs, ?_, ?_, ?_⟩
  · unfold mL; rw [List.drop_eq_nil_of_le (by omega), List.append_nil]
  · unfold mN; rw [Nat.sub_self]; rfl
  · unfold mN; omega
end Go.Proofs.YtinkkdgjpcnklaaDoor.trkn

/- The laws' vTracks: two lists of tracks that read alike. -/
namespace Go.Proofs.YtinkkdgjpcnklaaDoor.vtrk
open Go.RowKit Go.Proofs.YtinkkdgjpcnklaaDoor.ats Go.Proofs.YtinkkdgjpcnklaaDoor.ints Go.Proofs.YtinkkdgjpcnklaaDoor.lst Go.Proofs.YtinkkdgjpcnklaaDoor.trke

theorem int_ne_self (x : Int) : (x != x) = false := by simp
set_option maxHeartbeats 1000000 in
theorem vTracks (zs : List Int) (A C : Option Addr) (n c d : Nat) (w : World) (hn : n ≤ 1048577) (h1 : RdZ 6 w w.heap.size A n zs) (h2 : RdZ 6 w w.heap.size C n zs) :
    Calls Tryd.prog 8 #[.slice A n c, .slice C n d] w fun e w' => e = .returned (.bool true) ∧ ∃ j, w' = w.drewN j := by
  have hnn := int_ne_self (n : Int)
  go_enter Tryd.func8, Tryd.ntmps8
  go_wp2
  go_loopw [5] (fun i wr => ∃ k j : Nat, k ≤ n ∧ i = .int .i64 k ∧ wr = w.drewN j) (fun i _ => n - (intOf i).toNat)
  case atStart => exact ⟨0, 0, Nat.zero_le _, rfl, rfl⟩
  case round =>
    obtain ⟨k, j, hk, rfl, rfl⟩ := hrel
    by_cases hlt : k < n
    · obtain ⟨b1, o1, rfl, l1, p0, p1, p2, p3, p4, p5⟩ := cellsE h1 hlt
      obtain ⟨b2, o2, rfl, l2, r0, r1, r2, r3, r4, r5⟩ := cellsE h2 hlt
      have hlt2 : (k : Int) < (n : Int) := by omega
      clear h1 h2
      generalize fld 6 zs k 0 = x0 at *
      have hs0 := int_ne_self x0
      have ht0 : (x0 == x0) = true := by simp
      generalize fld 6 zs k 1 = x1 at *
      have hs1 := int_ne_self x1
      have ht1 : (x1 == x1) = true := by simp
      generalize fld 6 zs k 2 = x2 at *
      have hs2 := int_ne_self x2
      have ht2 : (x2 == x2) = true := by simp
      generalize fld 6 zs k 3 = x3 at *
      have hs3 := int_ne_self x3
      have ht3 : (x3 == x3) = true := by simp
      generalize fld 6 zs k 4 = x4 at *
      have hs4 := int_ne_self x4
      have ht4 : (x4 == x4) = true := by simp
      generalize fld 6 zs k 5 = x5 at *
      have hs5 := int_ne_self x5
      have ht5 : (x5 == x5) = true := by simp
      go_wp2_with fail
      go_quiet (fail)
      go_wp2
      go_roundw
      case rel => exact ⟨k + 1, _, by omega, by go_num, by first | rfl | rw [World.drewN_drewN]⟩
      case measure => simp [intOf]; omega
    · clear h1 h2
      go_wp2
      go_ret
      exact ⟨rfl, j, rfl⟩
end Go.Proofs.YtinkkdgjpcnklaaDoor.vtrk

/- spec's draws for the laws of chapter 14: idIn, DrawMissTrack, DrawConfirmedTracks, DrawScanTracks. -/
namespace Go.Proofs.YtinkkdgjpcnklaaDoor.draww14
open Go.RowKit Go.Proofs.YtinkkdgjpcnklaaDoor.cur Go.Proofs.YtinkkdgjpcnklaaDoor.atc Go.Proofs.YtinkkdgjpcnklaaDoor.ats Go.Proofs.YtinkkdgjpcnklaaDoor.ints Go.Proofs.YtinkkdgjpcnklaaDoor.lst Go.Proofs.YtinkkdgjpcnklaaDoor.code_ Go.Proofs.YtinkkdgjpcnklaaDoor.draws14 Go.Proofs.YtinkkdgjpcnklaaDoor.drawt14 Go.Proofs.YtinkkdgjpcnklaaDoor.drawu14 Go.Proofs.YtinkkdgjpcnklaaDoor.trk

theorem cells_app (xs : List Int) (x : Int) : cellsI xs ++ [.int .i64 x] = cellsI (xs ++ [x]) := by unfold cellsI; rw [List.map_append]; rfl
theorem apart_ty {W : World} {B B' e1 e2 s1 s2 n1 n2 : Nat} {v u : Value} {xs ys : List Value} (h1 : W.ownsRow B e1 s1 v n1 xs) (h2 : W.ownsRow B' e2 s2 u n2 ys) (hne : e1 ≠ e2) : ∀ g, u.ownBlock = some g → v.ownBlock ≠ some g := by
  intro g hu hv
  rcases h1.2 with ⟨rfl, _⟩ | ⟨g1, cap, cur, rfl, _, hh, _⟩
  · cases hv
  · rcases h2.2 with ⟨rfl, _⟩ | ⟨g2, cap2, cur2, rfl, _, hh2, _⟩
    · cases hu
    · have x1 : g1 = g := Option.some.inj hv
      have x2 : g2 = g := Option.some.inj hu
      subst x1
      subst x2
      rw [hh] at hh2
      injection hh2 with hh2
      injection hh2 with _ hh2
      exact hne hh2
def IdQ (p m : Nat) (w : World) (e : Ending) (w' : World) : Prop := ∃ i : Int, e = .returned (.int .i64 i) ∧ Cur w' p m ∧ w.grownBy w' (some p)
set_option maxRecDepth 100000 in
set_option maxHeartbeats 4000000 in
theorem idIn (zs0 : List Int) (A : Option Addr) (n c B p m : Nat) (w : World) (h : Cur w p m) (hm : m ≤ 100000) (hn : n ≤ 9) (hpB : p < B) (ho0 : w.ownsRow B 38 6 (.slice A n c) n (cellsI zs0)) :
    Calls Tryd.prog 22 #[.pointer (some ⟨p, 0, none⟩), .slice A n c] w (IdQ p (m + 10) w) := by
  have LI := Lib.hid ho0
  have HLZ := Lib.hid (own_len6 ho0)
  have C0 := Lib.hid h
  clear h ho0
  go_enter Tryd.func22, Tryd.ntmps22
  rcases Nat.eq_zero_or_pos n with hn0 | hn0
  · subst hn0
    have n1 : ((0 : Nat) : Int) = 0 := rfl
    go_wp2_with fail
    refine (pick p _ 12 w C0.out (by omega) (by omega) (by omega)).mono ?_
    rintro e w1 ⟨r, rfl, r0, r1, hc, hg⟩
    have HR := Lib.hid (show IdQ p (m + 10) w (.returned (.int .i64 r)) w1 from ⟨r, rfl, hc.more (by omega), hg⟩)
    clear hc hg
    go_wp2_with fail
    go_ret
    exact HR.out
  · have hn1 : (0 : Int) < (n : Int) := by omega
    have hn2 : ((n : Int) == 0) = false := by simp; omega
    go_wp2_with fail
    refine (one p _ 8 w C0.out (by omega) (by omega) (by omega)).mono ?_
    rintro e w1 ⟨b, rfl, hc, hg⟩
    have C1 := Lib.hid hc
    have G1 := Lib.hid hg
    clear hc hg C0
    cases b
    · go_wp2_with fail
      refine (pick p _ (n : Int) w1 C1.out (by omega) (by omega) (by omega)).mono ?_
      rintro e w7 ⟨r, rfl, r0, r1, hc, hg⟩
      have G7 := Lib.hid (grown_trans G1.out hg)
      have C7 := Lib.hid hc
      clear hc hg
      obtain ⟨kk, rfl⟩ := Int.eq_ofNat_of_zero_le r0
      have hkk : kk < n := by omega
      have hkki : (kk : Int) < (n : Int) := by omega
      have hkk0 : (0 : Int) ≤ (kk : Int) := r0
      have hli := own_kept LI.out G7.out (fun g e => by cases e; exact hpB)
      obtain ⟨gl, eA, hnc⟩ := own_pos hli hn0
      subst eA
      obtain ⟨b, o, eA, hbl, q0, q1, q2, q3, q4, q5⟩ := trke.cellsE (RdZ.of_own hli HLZ.out) hkk
      obtain ⟨rfl, rfl⟩ : gl = b ∧ 0 = o := by injection eA with e; injection e with e1 e2; exact ⟨e1, e2⟩
      rw [Nat.zero_add] at q0 q1 q2 q3 q4 q5
      generalize fld 6 zs0 kk 0 = f0 at *
      have HR := Lib.hid (show IdQ p (m + 10) w (.returned (.int .i64 f0)) w7 from ⟨f0, rfl, C7.out.more (by omega), G7.out⟩)
      clear hli q1 q2 q3 q4 q5 r0 r1
      go_wp2_with fail
      go_ret
      exact HR.out
    · go_wp2_with fail
      refine (pick p _ 12 w1 C1.out (by omega) (by omega) (by omega)).mono ?_
      rintro e w2 ⟨r, rfl, r0, r1, hc, hg⟩
      have HR := Lib.hid (show IdQ p (m + 10) w (.returned (.int .i64 r)) w2 from ⟨r, rfl, hc.more (by omega), grown_trans G1.out hg⟩)
      clear hc hg
      go_wp2_with fail
      go_ret
      exact HR.out
def ListQ (w : World) (e : Ending) (w' : World) : Prop := ∃ v k zs, e = .returned v ∧ w'.ownsRow w.heap.size 38 6 v k (cellsI zs) ∧ k ≤ 9 ∧ Below w.heap.size w w'
def MissQ (w : World) (e : Ending) (w' : World) : Prop := ∃ v k zs i, e = .returned (.tuple #[v, .int .i64 i]) ∧ w'.ownsRow w.heap.size 38 6 v k (cellsI zs) ∧ k ≤ 9 ∧ Below w.heap.size w w'
def ScanQ (w : World) (e : Ending) (w' : World) : Prop := ∃ v k zs u j xs s l ps, e = .returned (.tuple #[v, u, s]) ∧ w'.ownsRow w.heap.size 38 6 v k (cellsI zs) ∧ k ≤ 9 ∧ w'.ownsRow w.heap.size 3 1 u j (cellsI xs) ∧ j ≤ 10 ∧ w'.ownsRow w.heap.size 51 2 s l (cellsI ps) ∧ l ≤ 10 ∧ Below w.heap.size w w'
set_option maxRecDepth 100000 in
set_option maxHeartbeats 8000000 in
theorem validTracks (A : Option Addr) (n c : Nat) (w : World) (hn : n ≤ 65536) (h : Bytes w w.heap.size A n) :
    Calls Tryd.prog 41 #[.slice A n c] w (ListQ w) := by
  have HC0 := Lib.hid (new_cur c (by omega) h)
  have HZ1 := Lib.hid (show w.heap.size < (w.alloc (.cells #[.slice A n c, .int .i64 0, .int .u64 0] 47)).heap.size by rw [World.size_alloc]; omega)
  have B0 := Lib.hid ((newS 47 #[.slice A n c, .int .i64 0, .int .u64 0] w).1)
  clear h
  go_enter Tryd.func41, Tryd.ntmps41
  go_wp2_with fail
  generalize w.alloc (.cells #[.slice A n c, .int .i64 0, .int .u64 0] 47) = W0 at *
  refine (tracks _ 0 W0 HC0.out (by omega)).mono ?_
  rintro e w1 ⟨v, k, zs, rfl, ho, hk, hc, hg⟩
  obtain ⟨A1, c1, rfl⟩ := own_sliceZ ho
  have hle := Nat.le_of_lt HZ1.out
  have HR := Lib.hid (show ListQ w (.returned (.slice A1 k c1)) w1 from ⟨_, k, zs, rfl, own_.own_base ho hle, hk, below_of_grown B0.out hg⟩)
  clear ho hc hg B0
  go_wp2_with fail
  go_ret
  exact HR.out
theorem confirmedTracks (A : Option Addr) (n c : Nat) (w : World) (hn : n ≤ 65536) (h : Bytes w w.heap.size A n) :
    Calls Tryd.prog 13 #[.slice A n c] w (ListQ w) := by
  have D := Lib.hid (validTracks A n c w hn h)
  clear h
  go_enter Tryd.func13, Tryd.ntmps13
  go_wp2_with fail
  refine D.out.mono ?_
  rintro e w1 ⟨v, k, zs, rfl, h1, h2, h3⟩
  go_wp2_with fail
  go_ret
  exact ⟨v, k, zs, rfl, h1, h2, h3⟩
set_option maxRecDepth 100000 in
set_option maxHeartbeats 8000000 in
theorem missTrack (A : Option Addr) (n c : Nat) (w : World) (hn : n ≤ 65536) (h : Bytes w w.heap.size A n) :
    Calls Tryd.prog 10 #[.slice A n c] w (MissQ w) := by
  have HC0 := Lib.hid (new_cur c (by omega) h)
  have HZ1 := Lib.hid (show w.heap.size < (w.alloc (.cells #[.slice A n c, .int .i64 0, .int .u64 0] 47)).heap.size by rw [World.size_alloc]; omega)
  have B0 := Lib.hid ((newS 47 #[.slice A n c, .int .i64 0, .int .u64 0] w).1)
  clear h
  go_enter Tryd.func10, Tryd.ntmps10
  go_wp2_with fail
  generalize w.alloc (.cells #[.slice A n c, .int .i64 0, .int .u64 0] 47) = W0 at *
  refine (tracks _ 0 W0 HC0.out (by omega)).mono ?_
  rintro e w1 ⟨v, k, zs, rfl, ho, hk, hc, hg⟩
  obtain ⟨A1, c1, rfl⟩ := own_sliceZ ho
  have hle := Nat.le_of_lt HZ1.out
  have L1 := Lib.hid ho
  have C1 := Lib.hid hc
  have B1 := Lib.hid (below_of_grown B0.out hg)
  clear ho hc hg B0
  go_wp2_with fail
  refine (idIn zs A1 k c1 W0.heap.size _ _ w1 C1.out (by omega) hk HZ1.out L1.out).mono ?_
  rintro e w2 ⟨i, rfl, hc, hg⟩
  have HR := Lib.hid (show MissQ w (.returned (.tuple #[.slice A1 k c1, .int .i64 i])) w2 from ⟨_, k, zs, i, rfl, own_.own_base (own_kept L1.out hg (fun g e => by cases e; exact HZ1.out)) hle, hk, below_of_grown B1.out hg⟩)
  clear hc hg L1 C1 B1
  go_wp2_with fail
  go_ret2
  exact HR.out
set_option maxRecDepth 100000 in
set_option maxHeartbeats 8000000 in
theorem scanTracks (A : Option Addr) (n c : Nat) (w : World) (hn : n ≤ 65536) (h : Bytes w w.heap.size A n) :
    Calls Tryd.prog 5 #[.slice A n c] w (ScanQ w) := by
  have HC0 := Lib.hid (new_cur c (by omega) h)
  have HZ1 := Lib.hid (show w.heap.size < (w.alloc (.cells #[.slice A n c, .int .i64 0, .int .u64 0] 47)).heap.size by rw [World.size_alloc]; omega)
  have B0 := Lib.hid ((newS 47 #[.slice A n c, .int .i64 0, .int .u64 0] w).1)
  clear h
  go_enter Tryd.func5, Tryd.ntmps5
  go_wp2_with fail
  generalize w.alloc (.cells #[.slice A n c, .int .i64 0, .int .u64 0] 47) = W0 at *
  refine (tracks _ 0 W0 HC0.out (by omega)).mono ?_
  rintro e w1 ⟨v, k, zs, rfl, ho, hk, hc, hg⟩
  obtain ⟨A1, c1, rfl⟩ := own_sliceZ ho
  have hle := Nat.le_of_lt HZ1.out
  have L1 := Lib.hid ho
  have HLZ := Lib.hid (own_len6 ho)
  have hp1 : w.heap.size < w1.heap.size := hc.lt
  have hle1 := Nat.le_of_lt hp1
  have B1 := Lib.hid (below_of_grown B0.out hg)
  obtain ⟨i0, hi, hz0, hz1, hz2⟩ := info_parts infoI
  obtain ⟨j0, hj, hy0, hy1, hy2⟩ := info_parts Go.Proofs.YtinkkdgjpcnklaaDoor.drawu14.infoP
  have X0 := Lib.hid (show ((w1.alloc (.cells #[] 3)).alloc (.cells #[] 51)).ownsRow w1.heap.size 3 1 (.slice (some ⟨w1.heap.size, 0, none⟩) 0 0) 0 (cellsI []) from (own_emptyZ w1 3 1).alloc _)
  have P0 := Lib.hid (show ((w1.alloc (.cells #[] 3)).alloc (.cells #[] 51)).ownsRow w1.heap.size 51 2 (.slice (some ⟨w1.heap.size + 1, 0, none⟩) 0 0) 0 (cellsI []) from by
    have h := own_.own_base (own_emptyZ (w1.alloc (.cells #[] 3)) 51 2) (show w1.heap.size ≤ _ by rw [World.size_alloc]; omega)
    rw [World.size_alloc] at h
    exact h)
  have C0 := Lib.hid (Cur.alloc (Cur.alloc hc (.cells #[] 3)) (.cells #[] 51))
  have G0 := Lib.hid (show w1.grownBy ((w1.alloc (.cells #[] 3)).alloc (.cells #[] 51)) (some w.heap.size) from grown_trans (grown_alloc _ _) (grown_alloc _ _))
  clear ho hc hg B0
  go_upto_region 4 with fail
  generalize (w1.alloc (.cells #[] 3)).alloc (.cells #[] 51) = W2 at *
  go_wp2_with fail
  go_loopw [7, 8, 9] (fun xv pv iv wr => ∃ (i j l : Nat) (xs ps : List Int), i ≤ k ∧ j ≤ i ∧ l ≤ i ∧ iv = .int .i64 (i : Int) ∧ wr.ownsRow w1.heap.size 3 1 xv j (cellsI xs) ∧ wr.ownsRow w1.heap.size 51 2 pv l (cellsI ps) ∧ Cur wr w.heap.size (500 + 40 * i) ∧ w1.grownBy wr (some w.heap.size)) (fun _ _ iv _ => k - (intOf iv).toNat)
  case atStart => exact ⟨0, 0, 0, [], [], by omega, by omega, by omega, rfl, X0.out, P0.out, C0.out.more (by omega), G0.out⟩
  case round =>
    obtain ⟨i, j, l, xs, ps, hik, hji, hli', rfl, hx, hpp, hc, hg⟩ := hrel
    clear X0 P0 C0 G0
    have X3 := Lib.hid hx
    have P3 := Lib.hid hpp
    have C3 := Lib.hid hc
    have G3 := Lib.hid hg
    clear hx hpp hc hg
    by_cases hlt : i < k
    · have hlt2 : (i : Int) < (k : Int) := by omega
      have hi0 : (0 : Int) ≤ (i : Int) := by omega
      have e1 : IntKind.i64.wrap ((i : Int) + 1) = ((i + 1 : Nat) : Int) := by rw [IntWalk.i64_in _ (by omega)]; omega
      go_wp2_with fail
      refine (one _ _ 2 wr C3.out (by omega) (by omega) (by omega)).mono ?_
      rintro e w4 ⟨b, rfl, hc, hg⟩
      have X4 := Lib.hid (own_kept X3.out hg (fun g e => by cases e; exact hp1))
      have P4 := Lib.hid (own_kept P3.out hg (fun g e => by cases e; exact hp1))
      have G4 := Lib.hid (grown_trans G3.out hg)
      have C4 := Lib.hid hc
      clear hc hg X3 P3 G3 C3
      cases b
      · go_wp2_with fail
        go_roundw
        case rel => exact ⟨i + 1, j, l, xs, ps, by omega, by omega, by omega, rfl, X4.out, P4.out, C4.out.more (by omega), G4.out⟩
        case measure => simp [intOf]; omega
      · have hli := own_kept L1.out G4.out (fun g e => by cases e; exact HZ1.out)
        obtain ⟨gl, eA, hnc⟩ := own_pos hli (show 0 < k by omega)
        subst eA
        obtain ⟨b, o, eA, hbl, q0, q1, q2, q3, q4, q5⟩ := trke.cellsE (RdZ.of_own hli HLZ.out) hlt
        obtain ⟨rfl, rfl⟩ : gl = b ∧ 0 = o := by injection eA with e; injection e with e1 e2; exact ⟨e1, e2⟩
        rw [Nat.zero_add] at q0
        generalize fld 6 zs i 0 = f0 at *
        clear hli q1 q2 q3 q4 q5 eA
        have HSZ := Lib.hid G4.out.size
        go_wp2_with (at_builtin; refine wpList_append_own _ rfl (.tmp 25) (.tmp 31) 25 rfl w1.heap.size 3 i0 (.int .i64 0) 1 8 Tryd.underlying25 hi hz0 hz1 hz2 rfl (by decide) _ j (cellsI xs) rfl (X4.out.alloc _) ⟨w4.heap.size, 0, none⟩ 1 1 [.int .i64 f0] rfl rfl (cell_one_new _ _ _) (own_.one_cell _ rfl) (by unfold maxLen; omega) (by omega) (by rw [World.size_alloc]; have := HSZ.out; omega) ?_; intro v' w9 hown' hgrow hnil)
        clear q0
        have P5 := Lib.hid (own_kept_at (P4.out.alloc _) hgrow (apart_ty X4.out P4.out (by decide)))
        have C5 := Lib.hid (cur_append C4.out X4.out hp1 HSZ.out hgrow)
        have G5 := Lib.hid (grown_append G4.out X4.out (Nat.le_refl _) hgrow)
        rw [cells_app] at hown'
        have X5 := Lib.hid hown'
        clear hown' hgrow hnil X4 P4 C4 G4 HSZ
        go_wp2_with fail
        refine (drawp7.anyPlace _ _ w9 C5.out (by omega)).mono ?_
        rintro e wp_5 ⟨x, y, rfl, -, hc, hg⟩
        have X6 := Lib.hid (own_kept X5.out hg (fun g e => by cases e; exact hp1))
        have P6 := Lib.hid (own_kept P5.out hg (fun g e => by cases e; exact hp1))
        have G6 := Lib.hid (grown_trans G5.out hg)
        have C6 := Lib.hid hc
        clear hc hg X5 P5 G5 C5
        have HSZ := Lib.hid G6.out.size
        go_wp2_with (at_builtin; refine wpList_append_own _ rfl (.tmp 33) (.tmp 36) 26 rfl w1.heap.size 51 j0 (.agg #[.int .i64 0, .int .i64 0]) 2 16 Tryd.underlying26 hj hy0 hy1 hy2 rfl (by decide) _ l (cellsI ps) rfl (P6.out.alloc _) ⟨wp_5.heap.size, 0, none⟩ 1 1 [.int .i64 x, .int .i64 y] rfl rfl (cells_new _ _ #[.int .i64 x, .int .i64 y]) (two_cells _ _) (by unfold maxLen; omega) (by omega) (by rw [World.size_alloc]; have := HSZ.out; omega) ?_; intro v' wq hown' hgrow hnil)
        have X7 := Lib.hid (own_kept_at (X6.out.alloc _) hgrow (apart_ty P6.out X6.out (by decide)))
        have C7 := Lib.hid (cur_append C6.out P6.out hp1 HSZ.out hgrow)
        have G7 := Lib.hid (grown_append G6.out P6.out (Nat.le_refl _) hgrow)
        have P7 := Lib.hid (own_grow2 hown')
        clear hown' hgrow hnil X6 P6 C6 G6 HSZ
        go_wp2_with fail
        go_roundw
        case rel => exact ⟨i + 1, j + 1, l + 1, _, _, by omega, by omega, by omega, rfl, X7.out, P7.out, C7.out.more (by omega), G7.out⟩
        case measure => simp [intOf]; omega
    · obtain rfl : i = k := by omega
      go_wp2_with fail
      refine (pick _ _ 16 wr C3.out (by omega) (by omega) (by omega)).mono ?_
      rintro e w4 ⟨r, rfl, r0, r1, hc, hg⟩
      have X4 := Lib.hid (own_kept X3.out hg (fun g e => by cases e; exact hp1))
      have P4 := Lib.hid (own_kept P3.out hg (fun g e => by cases e; exact hp1))
      have G4 := Lib.hid (grown_trans G3.out hg)
      have C4 := Lib.hid hc
      clear hc hg X3 P3 G3 C3
      by_cases h0 : r = 0
      · subst h0
        go_wp2_with fail
        refine (idIn zs A1 i c1 W0.heap.size _ _ w4 C4.out (by omega) hk HZ1.out (own_kept L1.out G4.out (fun g e => by cases e; exact HZ1.out))).mono ?_
        rintro e w5 ⟨f0, rfl, hc, hg⟩
        have X5 := Lib.hid (own_kept X4.out hg (fun g e => by cases e; exact hp1))
        have P5 := Lib.hid (own_kept P4.out hg (fun g e => by cases e; exact hp1))
        have G5 := Lib.hid (grown_trans G4.out hg)
        have C5 := Lib.hid hc
        clear hc hg X4 P4 G4 C4
        have HSZ := Lib.hid G5.out.size
        go_wp2_with (at_builtin; refine wpList_append_own _ rfl (.tmp 42) (.tmp 46) 25 rfl w1.heap.size 3 i0 (.int .i64 0) 1 8 Tryd.underlying25 hi hz0 hz1 hz2 rfl (by decide) _ j (cellsI xs) rfl (X5.out.alloc _) ⟨w5.heap.size, 0, none⟩ 1 1 [.int .i64 f0] rfl rfl (cell_one_new _ _ _) (own_.one_cell _ rfl) (by unfold maxLen; omega) (by omega) (by rw [World.size_alloc]; have := HSZ.out; omega) ?_; intro v' w9 hown' hgrow hnil)
        have P6 := Lib.hid (own_kept_at (P5.out.alloc _) hgrow (apart_ty X5.out P5.out (by decide)))
        have C6 := Lib.hid (cur_append C5.out X5.out hp1 HSZ.out hgrow)
        have G6 := Lib.hid (grown_append G5.out X5.out (Nat.le_refl _) hgrow)
        rw [cells_app] at hown'
        have X6 := Lib.hid hown'
        clear hown' hgrow hnil X5 P5 C5 G5 HSZ
        go_wp2_with fail
        refine (drawp7.place _ _ w9 C6.out (by omega)).mono ?_
        rintro e wp_6 ⟨x, y, rfl, -, hc, hg⟩
        have X7 := Lib.hid (own_kept X6.out hg (fun g e => by cases e; exact hp1))
        have P7 := Lib.hid (own_kept P6.out hg (fun g e => by cases e; exact hp1))
        have G7 := Lib.hid (grown_trans G6.out hg)
        have C7 := Lib.hid hc
        clear hc hg X6 P6 G6 C6
        have HSZ := Lib.hid G7.out.size
        go_wp2_with (at_builtin; refine wpList_append_own _ rfl (.tmp 48) (.tmp 51) 26 rfl w1.heap.size 51 j0 (.agg #[.int .i64 0, .int .i64 0]) 2 16 Tryd.underlying26 hj hy0 hy1 hy2 rfl (by decide) _ l (cellsI ps) rfl (P7.out.alloc _) ⟨wp_6.heap.size, 0, none⟩ 1 1 [.int .i64 x, .int .i64 y] rfl rfl (cells_new _ _ #[.int .i64 x, .int .i64 y]) (two_cells _ _) (by unfold maxLen; omega) (by omega) (by rw [World.size_alloc]; have := HSZ.out; omega) ?_; intro v' wq hown' hgrow hnil)
        have X8 := Lib.hid (own_kept_at (X7.out.alloc _) hgrow (apart_ty P7.out X7.out (by decide)))
        have C8 := Lib.hid (cur_append C7.out P7.out hp1 HSZ.out hgrow)
        have G8 := Lib.hid (grown_append G7.out P7.out (Nat.le_refl _) hgrow)
        have P8 := Lib.hid (own_grow2 hown')
        clear hown' hgrow hnil X7 P7 C7 G7 HSZ
        obtain ⟨Ax, cx, rfl⟩ := own_sliceZ X8.out
        obtain ⟨Ap, cp, rfl⟩ := own_sliceZ P8.out
        have HR := Lib.hid (show ScanQ w (.returned (.tuple #[.slice A1 i c1, .slice Ax _ cx, .slice Ap _ cp])) _ from ⟨_, i, zs, _, _, _, _, _, _, rfl, own_.own_base (own_kept L1.out G8.out (fun g e => by cases e; exact HZ1.out)) hle, hk, own_.own_base X8.out hle1, by omega, own_.own_base P8.out hle1, by omega, below_of_grown B1.out G8.out⟩)
        clear X8 P8 G8 C8
        go_wp2_with fail
        go_ret3
        exact HR.out
      have d0 : (r == 0) = false := by simpa using h0
      by_cases h1 : r = 1
      · subst h1
        go_wp2_with fail
        refine (drawp7.place _ _ w4 C4.out (by omega)).mono ?_
        rintro e wp_4 ⟨x, y, rfl, -, hc, hg⟩
        have X5 := Lib.hid (own_kept X4.out hg (fun g e => by cases e; exact hp1))
        have P5 := Lib.hid (own_kept P4.out hg (fun g e => by cases e; exact hp1))
        have G5 := Lib.hid (grown_trans G4.out hg)
        have C5 := Lib.hid hc
        clear hc hg X4 P4 G4 C4
        have HSZ := Lib.hid G5.out.size
        go_wp2_with (at_builtin; refine wpList_append_own _ rfl (.tmp 55) (.tmp 58) 26 rfl w1.heap.size 51 j0 (.agg #[.int .i64 0, .int .i64 0]) 2 16 Tryd.underlying26 hj hy0 hy1 hy2 rfl (by decide) _ l (cellsI ps) rfl (P5.out.alloc _) ⟨wp_4.heap.size, 0, none⟩ 1 1 [.int .i64 x, .int .i64 y] rfl rfl (cells_new _ _ #[.int .i64 x, .int .i64 y]) (two_cells _ _) (by unfold maxLen; omega) (by omega) (by rw [World.size_alloc]; have := HSZ.out; omega) ?_; intro v' w9 hown' hgrow hnil)
        have X6 := Lib.hid (own_kept_at (X5.out.alloc _) hgrow (apart_ty P5.out X5.out (by decide)))
        have C6 := Lib.hid (cur_append C5.out P5.out hp1 HSZ.out hgrow)
        have G6 := Lib.hid (grown_append G5.out P5.out (Nat.le_refl _) hgrow)
        have P6 := Lib.hid (own_grow2 hown')
        clear hown' hgrow hnil X5 P5 C5 G5 HSZ
        obtain ⟨Ax, cx, rfl⟩ := own_sliceZ X6.out
        obtain ⟨Ap, cp, rfl⟩ := own_sliceZ P6.out
        have HR := Lib.hid (show ScanQ w (.returned (.tuple #[.slice A1 i c1, .slice Ax _ cx, .slice Ap _ cp])) _ from ⟨_, i, zs, _, _, _, _, _, _, rfl, own_.own_base (own_kept L1.out G6.out (fun g e => by cases e; exact HZ1.out)) hle, hk, own_.own_base X6.out hle1, by omega, own_.own_base P6.out hle1, by omega, below_of_grown B1.out G6.out⟩)
        clear X6 P6 G6 C6
        go_wp2_with fail
        go_ret3
        exact HR.out
      have d1 : (r == 1) = false := by simpa using h1
      obtain ⟨Ax, cx, rfl⟩ := own_sliceZ X4.out
      obtain ⟨Ap, cp, rfl⟩ := own_sliceZ P4.out
      have HR := Lib.hid (show ScanQ w (.returned (.tuple #[.slice A1 i c1, .slice Ax _ cx, .slice Ap _ cp])) _ from ⟨_, i, zs, _, _, _, _, _, _, rfl, own_.own_base (own_kept L1.out G4.out (fun g e => by cases e; exact HZ1.out)) hle, hk, own_.own_base X4.out hle1, by omega, own_.own_base P4.out hle1, by omega, below_of_grown B1.out G4.out⟩)
      clear X4 P4 G4 C4
      go_wp2_with fail
      go_ret3
      exact HR.out

end Go.Proofs.YtinkkdgjpcnklaaDoor.draww14

namespace Go.Proofs.YtinkkdgjpcnklaaDoor.fnScans
open Go.ChangeShapes Go.WideShapes Go.ChangeAt Go.RowKit
open Go.ChangeMaps (open_string shut_string)
open Go.Proofs.YtinkkdgjpcnklaaDoor.code_ Go.Proofs.YtinkkdgjpcnklaaDoor.cur Go.Proofs.YtinkkdgjpcnklaaDoor.ats Go.Proofs.YtinkkdgjpcnklaaDoor.lst Go.Proofs.YtinkkdgjpcnklaaDoor.ints Go.Proofs.YtinkkdgjpcnklaaDoor.trk Go.Proofs.YtinkkdgjpcnklaaDoor.trkm Go.Proofs.YtinkkdgjpcnklaaDoor.trkn Go.Proofs.YtinkkdgjpcnklaaDoor.drawt14 Go.Proofs.YtinkkdgjpcnklaaDoor.drawu14
set_option linter.unusedVariables false

theorem bool_ne_self (b : Bool) : (b != b) = false := by simp
theorem int_ne_self (b : Int) : (b != b) = false := by simp
theorem bool_eq_self (b : Bool) : (b == b) = true := by simp
theorem int_eq_self (b : Int) : (b == b) = true := by simp
theorem own_cap {w : World} {B e s n : Nat} {v : Value} {xs : List Value} (h : w.ownsRow B e s v n xs) : ∃ A c, v = .slice A n c ∧ n ≤ c := by
  rcases h.2 with ⟨rfl, h0⟩ | ⟨g, cap, cur, rfl, _, _, hle, _⟩
  · exact ⟨_, _, by rw [h0], by omega⟩
  · exact ⟨_, _, rfl, hle⟩
theorem own_len1 {w : World} {B e n : Nat} {v : Value} {xs : List Int} (h : w.ownsRow B e 1 v n (cellsI xs)) : xs.length = n := by have := h.1; unfold cellsI at this; simpa using this
def hasL (xs : List Int) (x : Int) : Nat → Bool
  | 0 => false
  | k + 1 => hasL xs x k || decide (xs.getD k 0 = x)
theorem hasL_at {xs : List Int} {x : Int} {n k : Nat} (hk : k < n) (h : xs.getD k 0 = x) : hasL xs x n = true := by
  induction n with
  | zero => omega
  | succ n ih =>
    rw [hasL]
    by_cases e : k = n
    · subst e; rw [decide_eq_true h]; simp
    · rw [ih (by omega)]; rfl
theorem hasL_mem {xs : List Int} {x : Int} {n : Nat} (hn : n ≤ xs.length) (h : hasL xs x n = true) : x ∈ xs := by
  induction n with
  | zero => simp [hasL] at h
  | succ n ih =>
    rw [hasL, Bool.or_eq_true] at h
    rcases h with h | h
    · exact ih (by omega) h
    · have := of_decide_eq_true h
      rw [List.getD_eq_getElem?_getD, List.getElem?_eq_getElem (by omega)] at this
      have e : xs[n] = x := this
      rw [← e]
      exact List.getElem_mem _
theorem mem_hasL {xs : List Int} {x : Int} (h : x ∈ xs) : hasL xs x xs.length = true := by
  obtain ⟨k, hk⟩ := List.mem_iff_getElem?.mp h
  have hl := (List.getElem?_eq_some_iff.1 hk).1
  exact hasL_at hl (by rw [List.getD_eq_getElem?_getD, hk]; rfl)
theorem has_not {xs : List Int} {x : Int} (h : ¬ x ∈ xs) : hasL xs x xs.length = false := by
  cases e : hasL xs x xs.length with
  | false => rfl
  | true => exact absurd (hasL_mem (Nat.le_refl _) e) h
set_option maxHeartbeats 400000 in
theorem vHas (xs : List Int) (x : Int) (A : Option Addr) (n c : Nat) (w : World) (hn : n ≤ 1048577) (h1 : RdI w w.heap.size A n xs) :
    Calls Tryd.prog 17 #[.slice A n c, .int .i64 x] w fun e w' => e = .returned (.bool (hasL xs x n)) ∧ w = w' := by
  go_enter Tryd.func17, Tryd.ntmps17
  go_wp2
  go_loop [5] (fun i => ∃ k : Nat, k ≤ n ∧ i = .int .i64 k ∧ hasL xs x k = false) (fun i => n - (intOf i).toNat)
  case atStart => exact ⟨0, Nat.zero_le _, rfl, rfl⟩
  case round =>
    obtain ⟨k, hk, rfl, hno⟩ := hrel
    by_cases hlt : k < n
    · obtain ⟨b, o, y, rfl, hbl, hy, hc⟩ := h1.at_ hlt
      have hlt2 : (k : Int) < (n : Int) := by omega
      have hyd : xs.getD k 0 = y := by rw [List.getD_eq_getElem?_getD, hy]; rfl
      have HS := Lib.hid (show hasL xs x (k + 1) = (hasL xs x k || decide (xs.getD k 0 = x)) from rfl)
      rw [hno, hyd] at HS
      have HY := Lib.hid (fun (h : xs.getD k 0 = x) => hasL_at (xs := xs) hlt h)
      rw [hyd] at HY
      clear hyd hy hno h1
      by_cases e : y = x
      · have e1 : (y == x) = true := by simpa using e
        have HE := Lib.hid (HY.out e)
        clear e HY HS
        go_wp2_with fail
        go_ret
        exact ⟨by rw [HE.out]; rfl, rfl⟩
      · have e1 : (y == x) = false := by simpa using e
        have HE := Lib.hid (show hasL xs x (k + 1) = false by rw [HS.out, decide_eq_false e]; rfl)
        clear e HY HS
        go_wp2_with fail
        go_round
        case rel => exact ⟨k + 1, by omega, by go_num, HE.out⟩
        case measure => simp [intOf]; omega
    · obtain rfl : k = n := by omega
      have HO := Lib.hid hno
      clear h1 hno
      go_wp2
      go_ret
      exact ⟨by rw [HO.out]; rfl, rfl⟩

theorem conf_has {zs : List Int} {n k : Nat} (hz : tvB zs n = true) (hk : k < n) : hasL (cfV zs n) (fld 6 zs k 0) (cfV zs n).length = decide (3 ≤ fld 6 zs k 4) := by
  have e : cfV zs n = cfT zs n := by unfold cfV; rw [hz]; exact if_pos rfl
  rw [e]
  by_cases h : 3 ≤ fld 6 zs k 4
  · rw [mem_hasL ((cf_mem hz hk).2 h), decide_eq_true h]
  · rw [has_not (fun hm => h ((cf_mem hz hk).1 hm)), decide_eq_false h]
theorem nil_i (w : World) (B : Nat) (A : Option Addr) : RdI w B A 0 [] := ⟨rfl, fun h => absurd h (Nat.lt_irrefl 0)⟩
theorem nil_z (s : Nat) (w : World) (B : Nat) (A : Option Addr) : RdZ s w B A 0 [] := ⟨by simp, fun h => absurd h (Nat.lt_irrefl 0)⟩
theorem mi_valid {zs : List Int} {n : Nat} {d : Int} (h : miB zs n d = true) : tvB zs n = true ∧ 0 < n := by
  unfold miB at h
  rw [Bool.and_eq_true] at h
  obtain ⟨k, hk, -⟩ := hasId_yes h.2
  exact ⟨h.1, by omega⟩
theorem ints_one (L : List Int) : ∀ u ∈ cellsI L, u.oneCell' = true := by
  intro u hu
  unfold cellsI at hu
  obtain ⟨x, -, rfl⟩ := List.mem_map.1 hu
  rfl
theorem m_start {zs : List Int} {n : Nat} : mL zs 0 = zs ∧ mN zs n 0 = n := by
  unfold mL mN
  refine ⟨by simp [chL], by simp [chN]⟩
theorem rd_news {w : World} {B n b o : Nat} {zs : List Int} (h : RdZ 6 w B (some ⟨b, o, none⟩) n zs) (hn : 0 < n) : ∀ j u, (cellsI zs)[j]? = some u → w.cell? ((⟨b, o, none⟩ : Addr).add j) = some u := by
  obtain ⟨b', o', e, -, hc⟩ := h.2 hn
  injection e with e
  injection e with e1 e2
  subst e1
  subst e2
  intro j u hu
  unfold cellsI at hu
  rw [List.getElem?_map] at hu
  cases hx : zs[j]? with
  | none => rw [hx] at hu; cases hu
  | some x =>
    rw [hx] at hu
    obtain rfl : .int .i64 x = u := by simpa using hu
    rw [Addr.add_lit]
    exact hc j x hx
theorem m_le {zs : List Int} {n i : Nat} (hi : i ≤ n) (hz : tvB zs n = true) : mN zs n i ≤ n := by
  have := chN_le (missC zs) i
  unfold mN
  omega

set_option maxRecDepth 100000 in
set_option maxHeartbeats 16000000 in
theorem walk (A : Option Addr) (n c : Nat) (z : List Int) (w : World) (w0 : IsRow .u8 w A n c z) (hlx : erl.LX w) :
    Calls Tryd.prog 3 #[.slice A n c] w fun e w' => e = .returned (.bool true) ∧ Below w.heap.size w w' := by
  obtain ⟨hby, hnc, -⟩ := bytes_of w0
  clear w0
  have HX := Lib.hid hlx
  clear hlx
  have hv := Lib.hid (fun w => vBig A n c w)
  by_cases hbig : (65536 : Int) < (n : Int)
  · clear hby
    go_enter Tryd.func3, Tryd.ntmps3
    go_wp2_with fail
    refine (hv.out _).mono ?_
    rintro e w1 ⟨rfl, rfl⟩
    go_wp2_with fail
    go_ret
    exact ⟨rfl, Below.refl _ _⟩
  have hd : decide ((65536 : Int) < (n : Int)) = false := by simpa using hbig
  have hn : n ≤ 65536 := by omega
  have H := Lib.hid hby
  clear hby hbig hnc
  go_enter Tryd.func3, Tryd.ntmps3
  go_wp2_with fail
  refine (hv.out _).mono ?_
  rintro e wx ⟨rfl, rfl⟩
  clear hd hv
  have HB0 := Lib.hid (Below.refl w.heap.size w)
  go_wp2_with fail
  refine (draww14.scanTracks A n c w hn (Bytes_below H.out HB0.out)).mono ?_
  rintro e V1 ⟨v1, k1, zs, u1, j1, xs, s1, l1, ps, rfl, ho1, hk1, ho2, hj1, ho3, hl1, h2⟩
  obtain ⟨A1, c1, rfl, hc1⟩ := own_cap ho1
  obtain ⟨A2, c2, rfl, hc2⟩ := own_cap ho2
  obtain ⟨A3, c3, rfl, hc3⟩ := own_cap ho3
  have HB3 := Lib.hid (HB0.out.trans (h2.mono HB0.out.size))
  clear HB0
  clear h2
  have RX4 := Lib.hid (RdZ.of_own ho1 (own_len6 ho1))
  have RX5 := Lib.hid (intc.rd_of_own ho2 (own_len1 ho2))
  have RX6 := Lib.hid (RdZ.of_own ho3 (own_len2 ho3))
  clear ho1 ho2 ho3
  have CI := Lib.hid (fun W h1 h2 h3 (hx : erl.LX W) => trkg.scanTracks zs xs ps A1 A2 A3 k1 c1 j1 c2 l1 c3 W (by omega) (by omega) (by omega) h1 h2 h3 hx.1 hx.2)
  have CS := Lib.hid (fun W h1 h2 h3 => trkx.scanTracks zs xs ps A1 A2 A3 k1 c1 j1 c2 l1 c3 W (by omega) (by omega) (by omega) h1 h2 h3)
  have F1 := Lib.hid (fun (h : scB zs k1 xs j1 ps l1 = true) => scan_valid h)
  have hN1 := scN_le zs k1 xs j1 ps l1
  generalize scL zs k1 xs j1 ps l1 = L1 at *
  generalize scN zs k1 xs j1 ps l1 = N1 at *
  generalize scD zs k1 xs j1 ps l1 = D1 at *
  generalize scB zs k1 xs j1 ps l1 = O1 at *
  have n1 := int_ne_self (D1 : Int)
  have n2 := bool_ne_self O1
  go_wp2_with fail
  refine (CI.out V1 RX4.out RX5.out RX6.out (erl.lx_on HX.out HB3.out)).mono ?_
  rintro e V7 ⟨vI, rfl, ho9, h8⟩
  obtain ⟨AI, cI, rfl, hcI⟩ := own_cap ho9
  have HB10 := Lib.hid (HB3.out.trans (h8.mono HB3.out.size))
  clear HB3
  have RX11 := Lib.hid (RX4.out.next h8)
  clear RX4
  have RX12 := Lib.hid (RX5.out.next h8)
  clear RX5
  have RX13 := Lib.hid (RX6.out.next h8)
  clear RX6
  clear h8
  have RX14 := Lib.hid (RdZ.of_own ho9 (own_len6 ho9))
  clear ho9
  go_wp2_with fail
  refine (CS.out V7 RX11.out RX12.out RX13.out).mono ?_
  rintro e V15 ⟨vS, rfl, ho17, h16⟩
  obtain ⟨AS, cS, rfl, hcS⟩ := own_cap ho17
  have HB18 := Lib.hid (HB10.out.trans (h16.mono HB10.out.size))
  clear HB10
  have RX19 := Lib.hid (RX11.out.next h16)
  clear RX11
  have RX20 := Lib.hid (RX12.out.next h16)
  clear RX12
  have RX21 := Lib.hid (RX13.out.next h16)
  clear RX13
  have RX22 := Lib.hid (RX14.out.next h16)
  clear RX14
  clear h16
  have RX23 := Lib.hid (RdZ.of_own ho17 (own_len6 ho17))
  clear ho17
  clear CI CS
  clear RX19
  clear RX20
  clear RX21
  go_wp2_with fail
  refine (vtrk.vTracks L1 AI AS N1 cI cS V15 (by omega) RX22.out RX23.out).mono ?_
  rintro e wx ⟨rfl, j24, rfl⟩
  have h25 := aid.below_drewN (Below.refl V15.heap.size V15) j24
  generalize V15.drewN j24 = V26 at *
  have HB27 := Lib.hid (HB18.out.trans (h25.mono HB18.out.size))
  clear HB18
  have RX28 := Lib.hid (RX22.out.next h25)
  clear RX22
  have RX29 := Lib.hid (RX23.out.next h25)
  clear RX23
  clear h25
  clear RX29
  have VT := Lib.hid (trkv.isValidTracks L1 AI N1 cI V26 (by omega) RX28.out)
  go_upto_region 8 with fail
  go_cut [83] from 69 to 83 (fun s wz => s = .bool false ∧ Below V26.heap.size V26 wz)
  case first =>
    cases O1
    · go_wp2_with fail
      go_meet
      exact ⟨rfl, Below.refl _ _⟩
    · obtain ⟨f1, f2⟩ := F1.out (by trivial)
      rw [f1] at VT
      have e1 : IntKind.i64.wrap ((N1 : Int) + (D1 : Int)) = (k1 : Int) := by rw [IntWalk.i64_in _ (by omega)]; omega
      have e2 : (N1 : Int) + (D1 : Int) = (k1 : Int) := by omega
      have n3 := int_ne_self (k1 : Int)
      clear f1 f2
      go_wp2_with fail
      refine VT.out.mono ?_
      rintro e wp ⟨rfl, hp⟩
      have HP := Lib.hid hp
      clear hp
      go_wp2_with fail
      go_meet
      exact ⟨rfl, HP.out⟩
  case rest =>
    obtain ⟨rfl, hbc⟩ := hcut
    have HB30 := Lib.hid (HB27.out.trans (hbc.mono HB27.out.size))
    clear HB27
    have RX31 := Lib.hid (RX28.out.next hbc)
    clear RX28
    clear hbc
    clear RX31
    clear F1 VT n1 n2
    generalize wc = VA at *
    go_wp2_with fail
    refine (draww14.missTrack A n c VA hn (Bytes_below H.out HB30.out)).mono ?_
    rintro e V32 ⟨v1, k2, ys, d2, rfl, ho1, hk2, h33⟩
    obtain ⟨A1, c1, rfl, hc1⟩ := own_cap ho1
    have HB34 := Lib.hid (HB30.out.trans (h33.mono HB30.out.size))
    clear HB30
    clear h33
    have RX35 := Lib.hid (RdZ.of_own ho1 (own_len6 ho1))
    clear ho1
    have HL2 := Lib.hid RX35.out.1
    have CI := Lib.hid (fun W h1 (hx : erl.LX W) => trkg.missTrack ys d2 A1 k2 c1 W (by omega) h1 hx.1)
    have CS := Lib.hid (fun W h1 => trku.missTrack ys d2 A1 k2 c1 W hc1 (by omega) h1)
    have F1 := Lib.hid (fun (h : miB ys k2 d2 = true) => mi_valid h)
    have hN2 := miN_le ys k2 d2
    generalize miL ys k2 d2 = L2 at *
    generalize miN ys k2 d2 = N2 at *
    generalize miB ys k2 d2 = O2 at *
    have n1 := bool_ne_self O2
    go_wp2_with fail
    refine (CI.out V32 RX35.out (erl.lx_on HX.out HB34.out)).mono ?_
    rintro e V36 ⟨vI, rfl, ho38, h37⟩
    obtain ⟨AI, cI, rfl, hcI⟩ := own_cap ho38
    have HB39 := Lib.hid (HB34.out.trans (h37.mono HB34.out.size))
    clear HB34
    have RX40 := Lib.hid (RX35.out.next h37)
    clear RX35
    clear h37
    have RX41 := Lib.hid (RdZ.of_own ho38 (own_len6 ho38))
    clear ho38
    go_wp2_with fail
    refine (CS.out V36 RX40.out).mono ?_
    rintro e V42 ⟨vS, rfl, ho44, h43⟩
    obtain ⟨AS, cS, rfl, hcS⟩ := own_cap ho44
    have HB45 := Lib.hid (HB39.out.trans (h43.mono HB39.out.size))
    clear HB39
    have RX46 := Lib.hid (RX40.out.next h43)
    clear RX40
    have RX47 := Lib.hid (RX41.out.next h43)
    clear RX41
    clear h43
    have RX48 := Lib.hid (RdZ.of_own ho44 (own_len6 ho44))
    clear ho44
    clear CI CS
    go_wp2_with fail
    refine (vtrk.vTracks L2 AI AS N2 cI cS V42 (by omega) RX47.out RX48.out).mono ?_
    rintro e wx ⟨rfl, j49, rfl⟩
    have h50 := aid.below_drewN (Below.refl V42.heap.size V42) j49
    generalize V42.drewN j49 = V51 at *
    have HB52 := Lib.hid (HB45.out.trans (h50.mono HB45.out.size))
    clear HB45
    have RX53 := Lib.hid (RX46.out.next h50)
    clear RX46
    have RX54 := Lib.hid (RX47.out.next h50)
    clear RX47
    have RX55 := Lib.hid (RX48.out.next h50)
    clear RX48
    clear h50
    clear RX55
    clear RX54
    go_upto_if 110 with fail
    go_cut [18, 19, 20, 21, 22, 23, 24] from 111 to 157 (fun p18 p19 p20 p21 p22 p23 p24 wz => Below V51.heap.size V51 wz)
    case first =>
      cases O2
      · go_wp2_with fail
        go_meet
        exact Below.refl _ _
      · obtain ⟨hz2, hp2⟩ := F1.out (by trivial)
        obtain ⟨e1, e2, e3, e4⟩ := m_none hz2 HL2.out
        have HZ2 := Lib.hid hz2
        obtain ⟨b1, o1, hA1, hb1, hcell⟩ := RX53.out.2 hp2
        obtain rfl := hA1
        have BE := (Below.refl V51.heap.size V51).alloc (Nat.le_refl _) (.cells #[] 3)
        have BE2 := BE.alloc (by rw [World.size_alloc]; omega) (.cells #[] 51)
        have K1 := trkg.scanTracks ys [] [] (some ⟨b1, o1, none⟩) (some ⟨V51.heap.size, 0, none⟩) (some ⟨V51.heap.size + 1, 0, none⟩) k2 c1 0 0 0 0 ((V51.alloc (.cells #[] 3)).alloc (.cells #[] 51)) (by omega) (by omega) (by omega) (RX53.out.next BE2) (nil_i _ _ _) (nil_z _ _ _ _) (erl.lx_on HX.out (HB52.out.trans (BE2.mono HB52.out.size))).1 (erl.lx_on HX.out (HB52.out.trans (BE2.mono HB52.out.size))).2
        rw [e1, e2, e3] at K1
        have K1 := Lib.hid K1
        have HB2 := Lib.hid BE2
        have hm0 := m_le (Nat.le_refl k2) hz2
        have HML := Lib.hid (m_ok hz2 HL2.out (Nat.le_refl k2)).2
        generalize scD ys k2 [] 0 [] 0 = D2 at *
        clear BE BE2 e1 e2 e3 hz2 F1
        go_wp2_with fail
        generalize (V51.alloc (.cells #[] 3)).alloc (.cells #[] 51) = W2 at *
        refine K1.out.mono ?_
        rintro e W3 ⟨vN, rfl, hoN, hb3⟩
        obtain ⟨AN, cN, rfl, -⟩ := own_cap hoN
        have RN := Lib.hid (RdZ.of_own hoN (own_len6 hoN))
        have B3 := Lib.hid (HB2.out.trans (hb3.mono HB2.out.size))
        clear hoN hb3 K1 HB2
        have OT := Lib.hid (own_emptyZ W3 38 6)
        have BT := Lib.hid ((Below.refl W3.heap.size W3).alloc (Nat.le_refl _) (.cells #[] 38))
        have R3 := Lib.hid (RX53.out.next B3.out)
        have NEWS := Lib.hid (rd_news (R3.out.next BT.out) hp2)
        have SZ := Lib.hid (show W3.heap.size ≤ (W3.alloc (.cells #[] 38)).heap.size by rw [World.size_alloc]; omega)
        obtain ⟨i0, hi, hz0, hz1, hzz2⟩ := info_parts infoT
        have ONE := Lib.hid (ints_one ys)
        have HLC := Lib.hid (show (cellsI ys).length = k2 * 6 by unfold cellsI; rw [List.length_map]; exact HL2.out)
        go_wp2_with (at_builtin; refine wpList_append_own _ rfl (.tmp 119) (.tmp 120) 24 rfl W3.heap.size 38 i0 (.agg #[.int .i64 0, .int .i64 0, .int .i64 0, .int .i64 0, .int .i64 0, .int .i64 0]) 6 48 Tryd.underlying24 hi hz0 hz1 hzz2 rfl (by decide) _ 0 [] rfl OT.out ⟨b1, o1, none⟩ k2 c1 (cellsI ys) rfl HLC.out NEWS.out ONE.out (by unfold maxLen; omega) (by omega) SZ.out ?_; intro v' w9 hown' hgrow hnil)
        have O9 := Lib.hid (show w9.ownsRow W3.heap.size 38 6 v' (mN ys k2 0) (cellsI (mL ys 0)) by rw [(m_start (zs := ys) (n := k2)).1, (m_start (zs := ys) (n := k2)).2]; rw [Nat.zero_add, List.nil_append] at hown'; exact hown')
        have B9 := Lib.hid (BT.out.grown hgrow SZ.out (fun g e => by cases e; exact Nat.le_refl _))
        clear hown' hgrow hnil NEWS ONE HLC OT BT SZ
        go_wp2_with fail
        go_loopw [21, 22] (fun v i wr => ∃ k : Nat, k ≤ k2 ∧ i = .int .i64 k ∧ wr.ownsRow W3.heap.size 38 6 v (mN ys k2 k) (cellsI (mL ys k)) ∧ Below W3.heap.size W3 wr) (fun _ i _ => k2 - (intOf i).toNat)
        case atStart => exact ⟨0, Nat.zero_le _, rfl, O9.out, B9.out⟩
        case round =>
          obtain ⟨k, hk, rfl, ho, hb⟩ := hrel
          clear O9 B9
          obtain ⟨A8, c8, rfl, -⟩ := own_cap ho
          have RO := Lib.hid (RdZ.of_own ho (m_ok HZ2.out HL2.out hk).2)
          have HB := Lib.hid hb
          have HBV := Lib.hid (B3.out.trans (hb.mono B3.out.size))
          have hmk := m_le hk HZ2.out
          clear ho hb
          by_cases hlt : k < k2
          · have hlt2 : (k : Int) < (k2 : Int) := by omega
            obtain ⟨b9, o9, hbo, -, hc9⟩ := (R3.out.next HB.out).at_ hlt
            injection hbo with hbo
            injection hbo with hbo1 hbo2
            subst hbo1
            subst hbo2
            have q0 : wr.cell? ⟨b1, o1 + k * 6, none⟩ = some (.int .i64 (fld 6 ys k 0)) := hc9 0 (by omega)
            obtain ⟨s1, s2, s3⟩ := m_step HZ2.out HL2.out hlt
            have K2 := trkg.missTrack (mL ys k) (fld 6 ys k 0) A8 (mN ys k2 k) c8 wr (by omega) RO.out (erl.lx_on HX.out (HB52.out.trans (HBV.out.mono HB52.out.size))).1
            rw [s1, s2, s3] at K2
            have K2 := Lib.hid K2
            clear s1 s2 s3 hc9
            generalize fld 6 ys k 0 = dk at *
            generalize mN ys k2 k = Nk at *
            go_wp2_with fail
            refine K2.out.mono ?_
            rintro e w7 ⟨v7, rfl, ho7, hb7⟩
            have O7 := Lib.hid (own_.own_base ho7 HB.out.size)
            have B7 := Lib.hid (HB.out.trans (hb7.mono HB.out.size))
            clear ho7 hb7 K2
            go_wp2_with fail
            go_roundw
            case rel => exact ⟨k + 1, by omega, by go_num, O7.out, B7.out⟩
            case measure => simp [intOf]; omega
          · obtain rfl : k = k2 := by omega
            have VT := Lib.hid (vtrk.vTracks (mL ys k) A8 AN (mN ys k k) c8 cN wr (by omega) RO.out (RN.out.next HB.out))
            have e5 : IntKind.i64.wrap ((k : Int) - (mN ys k k : Int)) = (D2 : Int) := by rw [IntWalk.i64_in _ (by omega)]; omega
            have n5 := int_ne_self (D2 : Int)
            have HBW := Lib.hid HBV.out
            clear e4
            generalize mN ys k k = Nk at *
            go_wp2_with fail
            refine VT.out.mono ?_
            rintro e wx ⟨rfl, jx, rfl⟩
            go_wp2_with fail
            go_meet
            exact aid.below_drewN HBW.out jx
    case rest =>
      have hbc := hcut
      clear RX53
      have HB56 := Lib.hid (HB52.out.trans (hbc.mono HB52.out.size))
      clear HB52
      clear hbc
      clear F1 n1 HL2
      generalize wc = VB at *
      go_wp2_with fail
      refine (draww14.confirmedTracks A n c VB hn (Bytes_below H.out HB56.out)).mono ?_
      rintro e V57 ⟨v1, k3, qs, rfl, ho1, hk3, h58⟩
      obtain ⟨A1, c1, rfl, hc1⟩ := own_cap ho1
      have HB59 := Lib.hid (HB56.out.trans (h58.mono HB56.out.size))
      clear HB56
      clear h58
      have RX60 := Lib.hid (RdZ.of_own ho1 (own_len6 ho1))
      clear ho1
      have CI := Lib.hid (fun W h1 => trky.confirmedI qs A1 k3 c1 W (by omega) h1)
      have CS := Lib.hid (fun W h1 => trky.confirmedS qs A1 k3 c1 W (by omega) h1)
      have F1 := Lib.hid (fun (h : tvB qs k3 = true) (k : Nat) (hk : k < k3) => conf_has h hk)
      have hN3 := cfV_le qs k3
      generalize cfV qs k3 = cl at *
      generalize tvB qs k3 = O3 at *
      have n1 := bool_ne_self O3
      go_wp2_with fail
      refine (CI.out V57 RX60.out).mono ?_
      rintro e V61 ⟨vI, rfl, ho63, h62⟩
      obtain ⟨AI, cI, rfl, hcI⟩ := own_cap ho63
      have HB64 := Lib.hid (HB59.out.trans (h62.mono HB59.out.size))
      clear HB59
      have RX65 := Lib.hid (RX60.out.next h62)
      clear RX60
      clear h62
      have RX66 := Lib.hid (intc.rd_of_own ho63 (own_len1 ho63))
      clear ho63
      go_wp2_with fail
      refine (CS.out V61 RX65.out).mono ?_
      rintro e V67 ⟨vS, rfl, ho69, h68⟩
      obtain ⟨AS, cS, rfl, hcS⟩ := own_cap ho69
      have HB70 := Lib.hid (HB64.out.trans (h68.mono HB64.out.size))
      clear HB64
      have RX71 := Lib.hid (RX65.out.next h68)
      clear RX65
      have RX72 := Lib.hid (RX66.out.next h68)
      clear RX66
      clear h68
      have RX73 := Lib.hid (intc.rd_of_own ho69 (own_len1 ho69))
      clear ho69
      clear CI CS
      go_wp2_with fail
      refine (vint.vInts cl AI AS cl.length cI cS V67 (by omega) RX72.out RX73.out).mono ?_
      rintro e wx ⟨rfl, j74, rfl⟩
      have h75 := aid.below_drewN (Below.refl V67.heap.size V67) j74
      generalize V67.drewN j74 = V76 at *
      have HB77 := Lib.hid (HB70.out.trans (h75.mono HB70.out.size))
      clear HB70
      have RX78 := Lib.hid (RX71.out.next h75)
      clear RX71
      have RX79 := Lib.hid (RX72.out.next h75)
      clear RX72
      have RX80 := Lib.hid (RX73.out.next h75)
      clear RX73
      clear h75
      clear RX80
      cases O3
      · go_wp2_with fail
        go_loopw [30] (fun i wr => i = .int .i64 0 ∧ wr = V76) (fun i _ => 0)
        case atStart => exact ⟨rfl, rfl⟩
        case round =>
          obtain ⟨rfl, rfl⟩ := hrel
          have HE := Lib.hid HB77.out
          by_cases hk0 : 0 < k3
          · have hk1 : (0 : Int) < (k3 : Int) := by omega
            go_wp2_with fail
            go_ret
            exact ⟨rfl, HE.out⟩
          · have hk1 : ¬ (0 : Int) < (k3 : Int) := by omega
            go_wp2_with fail
            go_ret
            exact ⟨rfl, HE.out⟩
      · go_wp2_with fail
        go_loopw [30] (fun i wr => ∃ k : Nat, k ≤ k3 ∧ i = .int .i64 k ∧ Below V76.heap.size V76 wr) (fun i _ => k3 - (intOf i).toNat)
        case atStart => exact ⟨0, Nat.zero_le _, rfl, Below.refl _ _⟩
        case round =>
          obtain ⟨k, hk, rfl, hb⟩ := hrel
          have HB := Lib.hid hb
          clear hb
          by_cases hlt : k < k3
          · have hlt2 : (k : Int) < (k3 : Int) := by omega
            obtain ⟨b9, o9, rfl, -, hc9⟩ := (RX78.out.next HB.out).at_ hlt
            have q0 : wr.cell? ⟨b9, o9 + k * 6, none⟩ = some (.int .i64 (fld 6 qs k 0)) := hc9 0 (by omega)
            have q4 : wr.cell? ⟨b9, o9 + k * 6 + 4, none⟩ = some (.int .i64 (fld 6 qs k 4)) := hc9 4 (by omega)
            have HH := F1.out (by trivial) k hlt
            have G1 := Lib.hid (fun d => aid.quiet_left (vHas cl (fld 6 qs k 0) AI cl.length cI (World.drewN wr d) (by omega) ((RX79.out.next HB.out).next (aid.below_drewN (Below.refl wr.heap.size wr) d))))
            rw [HH] at G1
            clear hc9 HH
            generalize fld 6 qs k 0 = d0 at *
            generalize fld 6 qs k 4 = d4 at *
            by_cases h3 : 3 ≤ d4
            · have g3 : decide (3 ≤ d4) = true := decide_eq_true h3
              rw [g3] at G1
              go_wp2_with fail
              go_quiet ((go_at_call 17; with_reducible exact G1.out _))
              go_wp2_with fail
              go_roundw
              case rel => exact ⟨k + 1, by omega, by go_num, aid.below_drewN HB.out _⟩
              case measure => simp [intOf]; omega
            · have g3 : decide (3 ≤ d4) = false := decide_eq_false h3
              rw [g3] at G1
              go_wp2_with fail
              go_quiet ((go_at_call 17; with_reducible exact G1.out _))
              go_wp2_with fail
              go_roundw
              case rel => exact ⟨k + 1, by omega, by go_num, aid.below_drewN HB.out _⟩
              case measure => simp [intOf]; omega
          · obtain rfl : k = k3 := by omega
            have HE := Lib.hid (HB77.out.trans (HB.out.mono HB77.out.size))
            go_wp2_with fail
            go_ret
            exact ⟨rfl, HE.out⟩

theorem own : ownKnob Tryd.prog.godebug = none := by kernel_rfl
theorem laidOut : laidOutB Tryd.prog = true := by kernel_rfl


set_option maxRecDepth 100000 in
theorem contract (H : Type) (enc : TypeId × Value → H) (W : World) (base : Nat) (args : Array Value) (ds gs : List (DataW H)) (before : List MemPlace)
    (hval : ∀ (j : Nat) t v, Tryd.f3.params[j]? = some t → args[j]? = some v → Value.okWide Tryd.prog W .any base t v)
    (hW : DataW.Whole enc Tryd.prog Tryd.f3.params.toList Rows.fnScansSpec.vars false W args.toList ds gs before) (hL : laidMetH Tryd.prog Rows.fnScansRow.laid W) :
    Calls Tryd.prog 3 args W fun e W' => ∃ v, e = .returned v ∧ Rows.fnScansSpec.post enc Tryd.prog Tryd.f3 false true false false W args v W' := by
  have hW' := hW
  obtain ⟨p, q, hA0, hV, rfl, hfz, hnd⟩ := hW
  have hA : DataW.TrodAll enc Tryd.prog W 0 (fun _ => true) true Tryd.f3.params.toList args.toList ds p := hA0
  rw [Tryd.params3] at hA hval
  obtain ⟨v0, vs0, d0, ds0, p0, q0, hargs, rfl, rfl, h0, r0⟩ := trodAll_cons hA
  obtain ⟨rfl, rfl, rfl⟩ := trodAll_nil r0
  obtain rfl : args = #[v0] := by cases args; simp_all
  obtain ⟨dv0, rfl⟩ : ∃ dv0, gs = [dv0] := by
    match gs, laid_.vars_length hV with
    | [dv0], _ => exact ⟨dv0, rfl⟩
  obtain ⟨a0, len0, cap0, rfl⟩ := okWide_slice Tryd.underlying22 (hval 0 22 v0 rfl rfl)
  have k0 := h0
  have lt0 : ∀ x ∈ p0, x.block < W.heap.size := by obtain ⟨m, hm⟩ := k0; exact DataW.trod_lt m _ _ _ hm
  obtain ⟨z0, w0⟩ : ∃ zs, IsRow .u8 W a0 len0 cap0 zs := by
    obtain ⟨fuel, hf⟩ := h0
    rcases open_ints Tryd.underlying22 Tryd.underlying5 (by kernel_rfl) hf with ⟨hcs, _⟩ | ⟨x, l, c, zs, hcs, _, hl, hm, hz, _, hcell, hwz⟩
    · simp [Value.cells] at hcs
      obtain ⟨rfl, rfl, rfl⟩ := hcs
      exact ⟨[], .inl ⟨rfl, rfl, rfl, rfl⟩⟩
    · simp [Value.cells] at hcs
      obtain ⟨rfl, rfl, rfl⟩ := hcs
      exact ⟨zs, .inr ⟨_, rfl, hl, hm, by simpa using hz, hcell, hwz⟩⟩
  clear hA0
  refine (walk a0 len0 cap0 z0 W w0 (erl.of_both hL)).mono fun e W' ⟨he, bel⟩ => ?_
  subst he
  exact ⟨_, rfl, _, _, _, [], _, _, hW', trodAll_mk1 (shut_bool Tryd.underlying4 _), (trodAll_cons_mk (Below.trod laidOut (by kernel_rfl) (of_decide_eq_true (by kernel_rfl)) k0 bel lt0) trodAll_mk0), Below.trodVars laidOut bel (by kernel_rfl) hV, bel.frame _, fun h => by cases h⟩

theorem laid_met (os : Os) : laidMetH Tryd.prog Rows.fnScansRow.laid ((erl.laidWorld os).forCall (fun _ _ => 0) ⟨#[], #[.slice none 0 0], []⟩).memory :=
  erl.both_met os _
theorem reads (os : Os) {H : Type} (enc : TypeId × Value → H) : ∃ places, DataW.whole enc Tryd.prog ((erl.laidWorld os).forCall (fun _ _ => 0) ⟨#[], #[.slice none 0 0], []⟩).memory Tryd.f3.params.toList Rows.fnScansSpec.vars false (#[.slice none 0 0] : Array Value).toList 8 = some ([.nil], [.held (enc (112, .pointer (some ⟨erl.low, 0, none⟩)))], places) :=
  ⟨MemPlace.row ⟨0, 0, none⟩ 1, by kernel_rfl⟩

set_option maxRecDepth 100000 in
theorem lifted (os : Os) (started : os.Started) (H : Type) (enc : TypeId × Value → H) (F : Stop.Interp) :
    ReturnsInHanded {} Tryd.checked os 3 .any ((OpenSpec.ofChange Rows.fnScansSpec).preRow enc Tryd.prog Tryd.f3 Rows.fnScansRow.domain false Rows.fnScansRow.laid) (((OpenSpec.ofChange Rows.fnScansSpec).at F).post enc Tryd.prog Tryd.f3 false true false false) := by
  obtain ⟨places, hx⟩ := reads os enc
  refine returnsInHanded_of_row (C := Tryd.checked) (s := OpenSpec.ofChange Rows.fnScansSpec) own started (by kernel_rfl) Tryd.func3
    (witness_row_at (enc := enc) (C := Tryd.checked) false (erl.laidWorld os) #[.slice none 0 0] rfl (by kernel_rfl) (by kernel_rfl) (by kernel_rfl)
      (OpenSpec.preRow_of_cond 8 hx (by kernel_rfl) (fun k hk => by cases hk) (by kernel_rfl) (laid_met os))) ?_
  intro W base args ds gs before hval hW _ _ _ hL _ _
  exact contract H enc W base args ds gs before hval hW hL

theorem said : Rows.FnScansSaid :=
  OpenClaim.holds_of_cond 3 Tryd.f3 rfl rfl rfl rfl rfl rfl rfl ⟨rfl, rfl, rfl, rfl, rfl⟩ rfl rfl rfl rfl rfl (by kernel_rfl) Tryd.func3 (by kernel_rfl)
    (of_decide_eq_true (by kernel_rfl)) (by unfold Func.isWrapper; first | (rw [if_pos (by decide +kernel)]; kernel_rfl) | (rw [if_neg (by decide +kernel)]; exact ⟨rfl, rfl⟩))
    (fun os started H enc _ F => by rw [OpenClaim.pre_eq_preRow]; exact lifted os started H enc F)

theorem plain (f : FuncId) (fn : Func) (hf : Tryd.pinned.checked.prog.funcNamed "loop.example/g00875/laws.FnScans" = some f) (hfn : Tryd.pinned.checked.prog.funcs[f]? = some fn) :
    true = Tryd.pinned.checked.prog.looks [] ∧ ∀ (j : Nat) t, fn.params[j]? = some t → Tryd.pinned.checked.prog.wantsStandIn t = false := by
  obtain rfl : f = 3 := Option.some.inj ((show Tryd.prog.funcNamed "loop.example/g00875/laws.FnScans" = some 3 by kernel_rfl).symm.trans hf) |>.symm
  obtain rfl : fn = Tryd.f3 := (Option.some.inj (Tryd.func3.symm.trans hfn)).symm
  refine ⟨by kernel_rfl, fun j t ht => ?_⟩
  rw [Tryd.params3] at ht
  have hm := Array.mem_of_getElem? ht
  simp at hm
  obtain rfl := hm
  exact (show Tryd.prog.wantsStandIn 22 = false by kernel_rfl)

theorem proved : Rows.FnScansCardSaid :=
  Claim7.holds_tied_plain_at .later [] _ _ _ _ said (fun _ h => by cases h) (by kernel_rfl) (fun _ h => by cases h) fnScans_row_tie rfl ⟨rfl, rfl⟩ (by kernel_rfl) rfl plain (by kernel_rfl)
#print axioms proved
end Go.Proofs.YtinkkdgjpcnklaaDoor.fnScans
