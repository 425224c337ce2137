/- Chapter 3: the name with given bits: ParseNameBits and JoinNameParts of spec and impl, bytes.TrimRight at spaces. -/
import Derived.Test.YtjfhkbpkiblkmaaDoorNamN
import Derived.OwnWalk
namespace Go.Proofs.YtjfhkbpkiblkmaaDoor.namp
open Go.RowKit Go.Proofs.YtjfhkbpkiblkmaaDoor.bin Go.Proofs.YtjfhkbpkiblkmaaDoor.good_ Go.Proofs.YtjfhkbpkiblkmaaDoor.bitsi Go.Proofs.YtjfhkbpkiblkmaaDoor.in_ Go.Proofs.YtjfhkbpkiblkmaaDoor.nam

/-- ParseNameBits's answer. -/
def pbOk (t : ByteArray) : Bool := rdB 2 64 t && pnB t.data.toList
def pbS (t : ByteArray) : ByteArray := if pbOk t then ⟨(pnL t.data.toList 8).toArray⟩ else ⟨#[]⟩
theorem pb_no {t : ByteArray} (h : pbOk t = false) : Ending.returned (.tuple #[.string ⟨#[]⟩, .bool false]) = .returned (.tuple #[.string (pbS t), .bool (pbOk t)]) := str_no h
theorem pb_yes {t u : ByteArray} (h : pbOk t = true) (hu : u.data.toList = pnL t.data.toList 8) : Ending.returned (.tuple #[.string u, .bool true]) = .returned (.tuple #[.string (pbS t), .bool (pbOk t)]) := str_yes h (aid.str_ext hu)
theorem pb_rd {t : ByteArray} (h : rdB 2 64 t = false) : pbOk t = false := by unfold pbOk; rw [h]; rfl
theorem pb_48 {t : ByteArray} (h : t.size ≠ 48) : pbOk t = false := by
  unfold pbOk pnB
  rw [len_list, decide_eq_false h]; simp
theorem gp_ext (t : ByteArray) (k : Nat) : (t.extract (6 * k) (6 * k + 6)).data.toList = gp t.data.toList k := by
  rw [sub_list]
  unfold gp
  rw [show 6 * k + 6 - 6 * k = 6 by omega]
/-- The letters of k groups that are no spaces, as a text. -/
def pnK (t : ByteArray) (k : Nat) : ByteArray := ⟨(pnL t.data.toList k).toArray⟩
theorem pnK_size (t : ByteArray) (k : Nat) : (pnK t k).size ≤ k := pnL_le t.data.toList k
theorem pnK_in {t : ByteArray} {k : Nat} (h : keep (lt t.data.toList k) = true) : pnK t k ++ ⟨#[lt t.data.toList k]⟩ = pnK t (k + 1) := by
  apply aid.str_ext
  rw [aid.str_app]
  show pnL t.data.toList k ++ [lt t.data.toList k] = pnL t.data.toList (k + 1)
  rw [pnL, if_pos h]
theorem pnK_out {t : ByteArray} {k : Nat} (h : keep (lt t.data.toList k) = false) : pnK t k = pnK t (k + 1) := by
  unfold pnK
  rw [pnL, if_neg (by rw [h]; decide)]
theorem conv_byte (w : World) (c : UInt8) : (convert 22 9 (.slice (some ⟨w.heap.size, 0, none⟩) 1 1)).run Tryd.prog (w.alloc (.cells #[.int .u8 (c.toNat : Int)] 5)) = .ok (.string ⟨#[c]⟩) (w.alloc (.cells #[.int .u8 (c.toNat : Int)] 5)) := by
  refine run_convert_bytes_back _ _ _ 5 _ 1 [c] Tryd.underlying22 Tryd.underlying5 Tryd.underlying9 ?_
  intro j hj
  have h0 : j = 0 := by simpa using hj
  subst h0
  have := cell_one_new w (.int .u8 (c.toNat : Int)) 5 0 _ rfl
  simpa using this
theorem byte_lt' (t : ByteArray) (k : Nat) (w : World) : Calls Tryd.prog 51 #[.int .i64 (dec 2 (gp t.data.toList k) : Nat)] w fun e w' => e = .returned (.int .u8 ((lt t.data.toList k).toNat : Nat)) ∧ w = w' := by
  have := nams.byte (dec 2 (gp t.data.toList k) : Nat) w
  rw [loI_nat, ← lob_toNat] at this
  exact this
theorem keep_parts {c : UInt8} (h : keep c = true) : 0 < c.toNat ∧ c.toNat ≠ 32 := by
  unfold keep at h
  rw [Bool.and_eq_true, decide_eq_true_eq, decide_eq_true_eq] at h
  exact h
theorem keep_not {c : UInt8} (h : keep c = false) : c.toNat = 0 ∨ c.toNat = 32 := by
  unfold keep at h
  rw [Bool.and_eq_false_iff, decide_eq_false_iff_not, decide_eq_false_iff_not] at h
  omega
theorem nb_ne {s t : ByteArray} (h : nbL s.data.toList 8 ≠ t.data.toList) : (!((nbA s).toList == t.toList)) = true := by
  rw [Bool.not_eq_true', beq_eq_false_iff_ne, Lib.toList_data, Lib.toList_data]
  exact h
theorem nb_same {s t : ByteArray} (h : nbL s.data.toList 8 = t.data.toList) : (!((nbA s).toList == t.toList)) = false := by
  rw [Bool.not_eq_false', beq_iff_eq, Lib.toList_data, Lib.toList_data]
  exact h

set_option maxRecDepth 100000 in
set_option maxHeartbeats 1000000 in
theorem specParse (t : ByteArray) (w : World) (hm : t.size ≤ maxLen) :
    Calls Tryd.prog 17 #[.string t] w fun e w' => e = .returned (.tuple #[.string (pbS t), .bool (pbOk t)]) ∧ Below w.heap.size w w' := by
  have hg := fun w => good t w hm
  cases h2 : rdB 2 64 t
  · rw [h2] at hg
    have HG := Lib.hid hg
    have HN := Lib.hid (pb_no (pb_rd h2))
    clear hg h2 hm
    go_enter Tryd.func17, Tryd.ntmps17
    go_wp2_with (go_at_call 50; refine (HG.out _).mono ?_; rintro e w' ⟨rfl, rfl⟩)
    go_ret2
    exact ⟨HN.out, Below.refl _ _⟩
  · rw [h2] at hg
    have HG := Lib.hid hg
    by_cases h3 : t.size = 48
    · have d3 : ((t.size : Int) != 48) = false := by rw [h3]; rfl
      have HT := Lib.hid (show pbOk t = pnB t.data.toList by unfold pbOk; rw [h2]; rfl)
      have HOk := Lib.hid (rd_ok h2).2
      have H3 := Lib.hid h3
      have hz : (48 : Int) ≤ (t.size : Int) := by omega
      clear hg h2 hm h3
      go_enter Tryd.func17, Tryd.ntmps17
      go_wp2_with (go_at_call 50; refine (HG.out _).mono ?_; rintro e w' ⟨rfl, rfl⟩)
      clear d3
      go_loopw [4, 5] (fun z i wr => ∃ (k q : Nat) (a : ByteArray), q ≤ 48 ∧ i = .int .i64 q ∧ z = .string a ∧ q = 6 * k ∧ a = pnK t k ∧ Below w.heap.size w wr) (fun _ i _ => 48 - (intOf i).toNat)
      case atStart => exact ⟨0, 0, _, Nat.zero_le _, rfl, rfl, rfl, rfl, Below.refl _ _⟩
      case round =>
        obtain ⟨k, q, a, hq, rfl, rfl, hqk, ha, hb⟩ := hrel
        have HA := Lib.hid ha
        have hsz := hb.size
        have has : a.size ≤ 8 := by rw [ha]; have := pnK_size t k; omega
        clear ha
        by_cases hlt : q < 48
        · have hq6 : q + 6 ≤ 48 := by omega
          have HN := Lib.hid (fun w => number (t.extract q (q + 6)) w (by rw [sub_size _ _ _ (by have := H3.out; omega)]; omega) (sub_ok HOk.out _ _))
          rw [hqk, gp_ext, ← hqk] at HN
          have HB := Lib.hid (fun w => byte_lt' t k w)
          have HQ := Lib.hid (show q + 6 = 6 * (k + 1) by omega)
          have hc := byte_lt (lt t.data.toList k)
          have g1 : (q : Int) + 6 ≤ (t.size : Int) := by omega
          have g2 : (q : Int) ≤ (q : Int) + 6 := by omega
          clear hqk
          cases hk : keep (lt t.data.toList k)
          · have HO := Lib.hid (show a = pnK t (k + 1) by rw [HA.out]; exact pnK_out hk)
            have hn := keep_not hk
            clear hk
            generalize dec 2 (gp t.data.toList k) = d at *
            generalize lt t.data.toList k = c at *
            rcases hn with hn | hn
            · have d1 : decide ((0 : Int) < (c.toNat : Int)) = false := decide_eq_false (by omega)
              have d2 : decide (0 < c.toNat) = false := decide_eq_false (by omega)
              clear hn
              go_wp2_with fail
              refine (HN.out _).mono ?_
              rintro e w' ⟨rfl, rfl⟩
              go_wp2_with fail
              refine (HB.out _).mono ?_
              rintro e w' ⟨rfl, rfl⟩
              go_wp2_with fail
              go_roundw
              case rel => exact ⟨k + 1, q + 6, _, by omega, by go_num, rfl, HQ.out, HO.out, hb⟩
              case measure => simp [intOf]; omega
            · have d1 : decide ((0 : Int) < (c.toNat : Int)) = true := decide_eq_true (by omega)
              have d2 : decide (0 < c.toNat) = true := decide_eq_true (by omega)
              have d3 : ((c.toNat : Int) != 32) = false := by simp; omega
              clear hn
              go_wp2_with fail
              refine (HN.out _).mono ?_
              rintro e w' ⟨rfl, rfl⟩
              go_wp2_with fail
              refine (HB.out _).mono ?_
              rintro e w' ⟨rfl, rfl⟩
              go_wp2_with fail
              go_roundw
              case rel => exact ⟨k + 1, q + 6, _, by omega, by go_num, rfl, HQ.out, HO.out, hb⟩
              case measure => simp [intOf]; omega
          · have HO := Lib.hid (show a ++ ⟨#[lt t.data.toList k]⟩ = pnK t (k + 1) by rw [HA.out]; exact pnK_in hk)
            have hn := keep_parts hk
            clear hk
            have hcv := conv_byte wr (lt t.data.toList k)
            generalize dec 2 (gp t.data.toList k) = d at *
            generalize lt t.data.toList k = c at *
            have d1 : decide ((0 : Int) < (c.toNat : Int)) = true := decide_eq_true (by omega)
            have d2 : decide (0 < c.toNat) = true := decide_eq_true (by omega)
            have d3 : ((c.toNat : Int) != 32) = true := by simp; omega
            clear hn
            go_wp2_with fail
            refine (HN.out _).mono ?_
            rintro e w' ⟨rfl, rfl⟩
            go_wp2_with fail
            refine (HB.out _).mono ?_
            rintro e w' ⟨rfl, rfl⟩
            go_wp2_with fail
            go_roundw
            case rel => exact ⟨k + 1, q + 6, _, by omega, by go_num, rfl, HQ.out, HO.out, hb.alloc hsz _⟩
            case measure => simp [intOf]; omega
        · obtain rfl : k = 8 := by omega
          obtain rfl : q = 48 := by omega
          have hal : a.data.toList = pnL t.data.toList 8 := by rw [HA.out]; rfl
          have HNm := Lib.hid (fun w => nams.name a w (by unfold maxLen; omega))
          cases hn : nmB a
          · have HN := Lib.hid (pb_no (t := t) (by
              rw [HT.out]
              unfold pnB
              rw [← hal, show nmL a.data.toList = false from hn]
              simp))
            rw [hn] at HNm
            clear hn hal
            go_wp2_with fail
            refine (HNm.out _).mono ?_
            rintro e w' ⟨rfl, rfl⟩
            go_wp2_with fail
            go_ret2
            exact ⟨HN.out, hb⟩
          · have HBt := Lib.hid (fun w => nams.bits a w hn)
            by_cases he : nbL a.data.toList 8 = t.data.toList
            · have HN := Lib.hid (pb_yes (t := t) (u := a) (by rw [HT.out]; exact (pn_of hn he).1) hal)
              have he2 := nb_same he
              rw [hn] at HNm
              clear hn hal he
              generalize nbA a = u at *
              go_wp2_with fail
              refine (HNm.out _).mono ?_
              rintro e w' ⟨rfl, rfl⟩
              go_wp2_with fail
              refine (HBt.out _).mono ?_
              rintro e w' ⟨rfl, rfl⟩
              go_wp2_with fail
              go_ret2
              exact ⟨HN.out, hb⟩
            · have HN := Lib.hid (pb_no (t := t) (by
                rw [HT.out]
                unfold pnB
                rw [← hal, decide_eq_false he]
                simp))
              have he2 := nb_ne he
              rw [hn] at HNm
              clear hn hal he
              generalize nbA a = u at *
              go_wp2_with fail
              refine (HNm.out _).mono ?_
              rintro e w' ⟨rfl, rfl⟩
              go_wp2_with fail
              refine (HBt.out _).mono ?_
              rintro e w' ⟨rfl, rfl⟩
              go_wp2_with fail
              go_ret2
              exact ⟨HN.out, hb⟩
    · have d3 : ((t.size : Int) != 48) = true := by simp; omega
      have HN := Lib.hid (pb_no (pb_48 h3))
      clear hg h2 hm h3
      go_enter Tryd.func17, Tryd.ntmps17
      go_wp2_with (go_at_call 50; refine (HG.out _).mono ?_; rintro e w' ⟨rfl, rfl⟩)
      go_ret2
      exact ⟨HN.out, Below.refl _ _⟩

/-- Block g begins with the bytes l. -/
def Byt (w : World) (g : Nat) (l : List UInt8) : Prop := ∀ j (hj : j < l.length), w.cell? ⟨g, j, none⟩ = some (.int .u8 (l[j].toNat : Int))
def lenOf : Value → Nat
  | .slice _ n _ => n
  | _ => 0
theorem trim_last (r : List UInt8) (c : UInt8) : trim (r ++ [c]) = if c = 32 then trim r else r ++ [c] := by
  unfold trim
  rw [List.reverse_append]
  show ((c :: r.reverse).dropWhile (· == 32)).reverse = _
  rw [List.dropWhile_cons]
  by_cases h : c = 32
  · subst h; rfl
  · rw [if_neg (by simpa using h), if_neg h]; simp
theorem trim_cut {l : List UInt8} {m : Nat} (hm : m < l.length) : trim (l.take (m + 1)) = if l[m] = 32 then trim (l.take m) else l.take (m + 1) := by
  rw [List.take_succ_eq_append_getElem hm, trim_last]
set_option maxRecDepth 100000 in
theorem trimByte (g cap : Nat) (l : List UInt8) (w : World) (h : Byt w g l) (hc : l.length ≤ cap) (hc2 : cap ≤ 1000) :
    Calls Tryd.prog 75 #[.slice (some ⟨g, 0, none⟩) l.length cap, .int .u8 32] w fun e w' => e = .returned (.slice (some ⟨g, 0, none⟩) (trim l).length cap) ∧ w = w' := by
  have HB := Lib.hid h
  clear h
  go_enter Tryd.func75, Tryd.ntmps75
  go_wp2_with fail
  go_loop [0] (fun v => ∃ m : Nat, m ≤ l.length ∧ v = .slice (some ⟨g, 0, none⟩) m cap ∧ trim (l.take m) = trim l) (fun v => lenOf v)
  case atStart => exact ⟨l.length, Nat.le_refl _, rfl, by rw [List.take_length]⟩
  case round =>
    obtain ⟨m, hm, rfl, ht⟩ := hrel
    have HT := Lib.hid ht
    clear ht
    cases m with
    | zero =>
      have HR := Lib.hid (show Ending.returned (.slice (some ⟨g, 0, none⟩) 0 cap) = .returned (.slice (some ⟨g, 0, none⟩) (trim l).length cap) by rw [← HT.out]; rfl)
      go_wp2_with fail
      go_ret
      exact ⟨HR.out, rfl⟩
    | succ q =>
      have hq : q < l.length := by omega
      have hcell := HB.out q hq
      have hcut := trim_cut hq
      have hbl := byte_lt l[q]
      have g1 : ((q + 1 : Nat) : Int) - 1 = (q : Int) := by omega
      have g2 : (0 : Int) < ((q + 1 : Nat) : Int) := by omega
      have g3 : (q : Int) ≤ (cap : Int) := by omega
      by_cases h32 : l[q] = 32
      · have d1 : ((l[q].toNat : Int) == 32) = true := by rw [h32]; rfl
        rw [if_pos h32, HT.out] at hcut
        have HC := Lib.hid hcut.symm
        clear hcut h32
        generalize l[q] = c at *
        go_wp2_with fail
        go_round
        case rel => exact ⟨q, by omega, rfl, HC.out⟩
        case measure => simp [lenOf]
      · have d1 : ((l[q].toNat : Int) == 32) = false := by
          rw [beq_eq_false_iff_ne]
          intro e
          exact h32 (UInt8.toNat_inj.1 (by show l[q].toNat = 32; omega))
        rw [if_neg h32, HT.out] at hcut
        have HR := Lib.hid (show Ending.returned (.slice (some ⟨g, 0, none⟩) (q + 1) cap) = .returned (.slice (some ⟨g, 0, none⟩) (trim l).length cap) by
          rw [hcut, List.length_take, Nat.min_eq_left (by omega)])
        clear hcut h32
        generalize l[q] = c at *
        go_wp2_with fail
        go_ret
        exact ⟨HR.out, rfl⟩

set_option maxRecDepth 100000 in
theorem trimRight (g cap : Nat) (l : List UInt8) (w : World) (h : Byt w g l) (h0 : 0 < l.length) (hc : l.length ≤ cap) (hc2 : cap ≤ 1000) :
    Calls Tryd.prog 45 #[.slice (some ⟨g, 0, none⟩) l.length cap, .string ⟨#[32]⟩] w fun e w' => e = .returned (.slice (some ⟨g, 0, none⟩) (trim l).length cap) ∧ w = w' := by
  have HC := Lib.hid (fun w h => trimByte g cap l w h hc hc2)
  have HB := Lib.hid h
  have d0 : ((l.length : Int) == 0) = false := beq_eq_false_iff_ne.2 (by omega)
  clear h
  generalize (trim l).length = r at *
  go_enter Tryd.func45, Tryd.ntmps45
  go_wp2_with fail
  refine (HC.out _ HB.out).mono ?_
  rintro e w' ⟨rfl, rfl⟩
  go_wp2_with fail
  go_ret
  exact ⟨rfl, rfl⟩
end Go.Proofs.YtjfhkbpkiblkmaaDoor.namp
