/- impl's search for an aircraft (slices.BinarySearchFunc at []Heard, proved at the program itself), HeardFrom, TotalFrames. -/
import Derived.Test.YtdjcbfeilkepmaaRcvB
import Derived.Test.YtdjcbfeilkepmaaRcvA
namespace Go.Proofs.Ytdjcbfeilkepmaa.rcvg
open Go.RowKit Go.Proofs.Ytdjcbfeilkepmaa.rcv Go.Proofs.Ytdjcbfeilkepmaa.rcvm Go.Proofs.Ytdjcbfeilkepmaa.ats

theorem results_ct {fn : Func} {p u : Tmp} {ty : TypeId} (h : fn.results = #[.cell p ty, .tmp u]) (tmps : Array Value) (P : Program) (w : World) :
    (results fn tmps).run P w = ((asAddr (tmps.getD p undef)).run P w).andThen fun a w₁ => ((loadVar ty a).run P w₁).andThen fun v w₂ => .ok (.tuple #[v, tmps.getD u undef]) w₂ := by
  simp only [results, h]
  simp [Sem.run_bind, Result.andThen]
theorem isNaN (x : Int) (w : World) : Calls Try.prog 176 #[.int .i64 x] w fun e w' => e = .returned (.bool false) ∧ w = w' := by
  have h : (x != x) = false := by simp
  go_enter Try.func176, Try.ntmps176
  go_wp2_with fail
  go_ret
  exact ⟨rfl, rfl⟩
def cm (x y : Int) : Int := if x < y then -1 else if y < x then 1 else 0
theorem compare (x y : Int) (w : World) :
    Calls Try.prog 154 #[.int .i64 x, .int .i64 y] w fun e w' => e = .returned (.int .i64 (cm x y)) ∧ w = w' := by
  have H1 := Lib.hid (fun w => isNaN x w)
  have H2 := Lib.hid (fun w => isNaN y w)
  unfold cm
  by_cases h1 : x < y
  · rw [if_pos h1]
    have g1 : decide (x < y) = true := decide_eq_true h1
    go_enter Try.func154, Try.ntmps154
    go_wp2_with fail
    refine (H1.out _).mono ?_
    rintro e w' ⟨rfl, rfl⟩
    go_wp2_with fail
    refine (H2.out _).mono ?_
    rintro e w' ⟨rfl, rfl⟩
    go_wp2_with fail
    go_ret
    exact ⟨rfl, rfl⟩
  · have g1 : decide (x < y) = false := decide_eq_false h1
    rw [if_neg h1]
    by_cases h2 : y < x
    · rw [if_pos h2]
      have g2 : decide (y < x) = true := decide_eq_true h2
      clear h1
      go_enter Try.func154, Try.ntmps154
      go_wp2_with fail
      refine (H1.out _).mono ?_
      rintro e w' ⟨rfl, rfl⟩
      go_wp2_with fail
      refine (H2.out _).mono ?_
      rintro e w' ⟨rfl, rfl⟩
      go_wp2_with fail
      go_ret
      exact ⟨rfl, rfl⟩
    · have g2 : decide (y < x) = false := decide_eq_false h2
      rw [if_neg h2]
      clear h1 h2
      go_enter Try.func154, Try.ntmps154
      go_wp2_with fail
      refine (H1.out _).mono ?_
      rintro e w' ⟨rfl, rfl⟩
      go_wp2_with fail
      refine (H2.out _).mono ?_
      rintro e w' ⟨rfl, rfl⟩
      go_wp2_with fail
      go_ret
      exact ⟨rfl, rfl⟩
set_option maxRecDepth 100000 in
theorem closure (h : Hd) (x : Int) (w : World) :
    Calls Try.prog 205 #[.agg #[.int .i64 h.ad, .bool h.eo, .int .i64 h.ea, .int .i64 h.eb, .int .i64 h.et, .bool h.oo, .int .i64 h.oa, .int .i64 h.ob, .int .i64 h.ot, .int .i64 h.fr], .int .i64 x] w fun e w' => e = .returned (.int .i64 (cm h.ad x)) ∧ Below w.heap.size w w' := by
  have B0 := Lib.hid (newS 137 #[.int .i64 h.ad, .bool h.eo, .int .i64 h.ea, .int .i64 h.eb, .int .i64 h.et, .bool h.oo, .int .i64 h.oa, .int .i64 h.ob, .int .i64 h.ot, .int .i64 h.fr] w)
  have H1 := Lib.hid (fun w => compare h.ad x w)
  generalize cm h.ad x = r at *
  go_enter Try.func205, Try.ntmps205
  go_wp2_with fail
  refine (H1.out _).mono ?_
  rintro e w' ⟨rfl, rfl⟩
  go_wp2_with fail
  go_ret
  exact ⟨rfl, B0.out.1⟩

set_option maxRecDepth 100000 in
set_option maxHeartbeats 4000000 in
theorem search (m : Int) (hs : List Hd) (x : Int) (A : Option Addr) (c : Nat) (w : World) (hv : vB m hs = true) (h : RdH w w.heap.size A hs) :
    Calls Try.prog 204 #[.slice A hs.length c, .int .i64 x, .func (.func 205) #[] #[]] w
      fun e w' => e = .returned (.tuple #[.int .i64 (lead hs x : Int), .bool (known hs x)]) ∧ Below w.heap.size w w' := by
  have HR := Lib.hid (fun (wr : World) (hb : Below w.heap.size w wr) => h.below hb (Nat.le_refl _))
  have H6 := (v_parts hv).2.1
  have UP := Lib.hid (fun i j (hij : i < j) (hj : j < hs.length) => v_up hv hij hj)
  have CL := Lib.hid (fun h w => closure h x w)
  generalize hN : hs.length = n at *
  have HN := Lib.hid hN
  clear h hN hv
  go_enter Try.func204, Try.ntmps204
  go_wp2_with fail
  go_loopw [9, 10] (fun p q wr => ∃ lo hi : Nat, p = .int .i64 lo ∧ q = .int .i64 hi ∧ lo ≤ hi ∧ hi ≤ n ∧ Below w.heap.size w wr ∧ (∀ t, t < lo → (hx hs t).ad < x) ∧ ∀ t, hi ≤ t → t < n → ¬ (hx hs t).ad < x) (fun p q _ => (intOf q).toNat - (intOf p).toNat)
  case atStart => exact ⟨0, n, rfl, rfl, Nat.zero_le _, Nat.le_refl _, Below.refl _ _, fun t ht => absurd ht (Nat.not_lt_zero _), fun t h1 h2 => by omega⟩
  case round =>
    obtain ⟨lo, hi, rfl, rfl, hlh, hin, hb, h1, h2⟩ := hrel
    have HB := Lib.hid hb
    have H1 := Lib.hid h1
    have H2 := Lib.hid h2
    clear hb h1 h2
    by_cases hlt : lo < hi
    · obtain ⟨b, o, rfl, hbl, c0, c1, c2, c3, c4, c5, c6, c7, c8, c9⟩ := (HR.out wr HB.out).cells (k := (lo + hi) / 2) (by rw [HN.out]; omega)
      have hlt2 : (lo : Int) < (hi : Int) := by omega
      have C1 := Lib.hid (fun w => CL.out (hx hs ((lo + hi) / 2)) w)
      have U1 := Lib.hid (fun t (ht : t < (lo + hi) / 2) => UP.out t ((lo + hi) / 2) ht (by omega))
      have U2 := Lib.hid (fun t (ht : (lo + hi) / 2 < t) (h : t < n) => UP.out ((lo + hi) / 2) t ht h)
      generalize hz : hx hs ((lo + hi) / 2) = z at *
      have HZ := Lib.hid hz
      clear hz
      by_cases hyx : z.ad < x
      · have e1 : cm z.ad x = -1 := by unfold cm; rw [if_pos hyx]
        rw [e1] at C1
        have LT := Lib.hid hyx
        clear e1 hyx
        go_wp2_with fail
        refine (C1.out _).mono ?_
        rintro e w2 ⟨rfl, hb2⟩
        have HB2 := Lib.hid (HB.out.trans (hb2.mono HB.out.size))
        clear hb2 c0 c1 c2 c3 c4 c5 c6 c7 c8 c9
        go_wp2_with fail
        go_roundw
        case rel => exact ⟨(lo + hi) / 2 + 1, hi, by rw [show ((lo : Int) + (hi : Int)) / 2 + 1 = (((lo + hi) / 2 + 1 : Nat) : Int) by omega], rfl, by omega, hin, HB2.out, fun t ht => by
          rcases Nat.lt_or_ge t ((lo + hi) / 2) with h | h
          · have := U1.out t h; have := LT.out; omega
          · obtain rfl : t = (lo + hi) / 2 := by omega
            rw [HZ.out]; exact LT.out, fun t a b => by have := H2.out t a b; omega⟩
        case measure => simp [intOf]; omega
      · have e1 : 0 ≤ cm z.ad x := by unfold cm; rw [if_neg hyx]; split <;> omega
        have GE := Lib.hid hyx
        generalize cm z.ad x = r at *
        have gr : decide (r < 0) = false := decide_eq_false (by omega)
        clear e1 hyx
        go_wp2_with fail
        refine (C1.out _).mono ?_
        rintro e w2 ⟨rfl, hb2⟩
        have HB2 := Lib.hid (HB.out.trans (hb2.mono HB.out.size))
        clear hb2 c0 c1 c2 c3 c4 c5 c6 c7 c8 c9
        go_wp2_with fail
        go_roundw
        case rel => exact ⟨lo, (lo + hi) / 2, rfl, by rw [show ((lo : Int) + (hi : Int)) / 2 = (((lo + hi) / 2 : Nat) : Int) by omega], by omega, by omega, HB2.out, H1.out, fun t ht h => by
          rcases Nat.lt_or_ge ((lo + hi) / 2) t with h3 | h3
          · have := U2.out t h3 h; have := GE.out; omega
          · obtain rfl : t = (lo + hi) / 2 := by omega
            rw [HZ.out]; have := GE.out; omega⟩
        case measure => simp [intOf]; omega
    · obtain rfl : hi = lo := by omega
      have HL := Lib.hid (lead_of (hs := hs) (x := x) (k := hi) (by rw [HN.out]; exact hin) H1.out (fun h => H2.out hi (Nat.le_refl _) (by rw [← HN.out]; exact h)))
      by_cases hn : hi < n
      · obtain ⟨b, o, rfl, hbl, c0, c1, c2, c3, c4, c5, c6, c7, c8, c9⟩ := (HR.out wr HB.out).cells (k := hi) (by rw [HN.out]; exact hn)
        have hn2 : (hi : Int) < (n : Int) := by omega
        have C1 := Lib.hid (fun w => CL.out (hx hs hi) w)
        have HG := Lib.hid (H2.out hi (Nat.le_refl _) hn)
        have HK := Lib.hid (show known hs x = (cm (hx hs hi).ad x == 0) by
          unfold known
          rw [HL.out]
          by_cases e : (hx hs hi).ad = x
          · rw [decide_eq_true ⟨by rw [HN.out]; exact hn, e⟩, e]; simp [cm]
          · rw [decide_eq_false (fun q => e q.2)]
            have := HG.out
            have e2 : cm (hx hs hi).ad x = 1 := by unfold cm; rw [if_neg this, if_pos (by omega)]
            rw [e2]; rfl)
        generalize hx hs hi = z at *
        generalize cm z.ad x = r at *
        go_wp2_with fail
        refine (C1.out _).mono ?_
        rintro e w2 ⟨rfl, hb2⟩
        have HB2 := Lib.hid (HB.out.trans (hb2.mono HB.out.size))
        clear hb2 c0 c1 c2 c3 c4 c5 c6 c7 c8 c9
        go_wp2_with fail
        go_ret2
        exact ⟨by rw [HK.out, HL.out]; rfl, HB2.out⟩
      · have HK := Lib.hid (show known hs x = false by
          unfold known
          rw [HL.out]
          exact decide_eq_false (fun q => hn (by rw [← HN.out]; exact q.1)))
        have hn2 : ¬ (hi : Int) < (n : Int) := by omega
        go_wp2_with fail
        go_ret2
        exact ⟨by rw [HK.out, HL.out]; rfl, HB.out⟩

set_option maxRecDepth 100000 in
theorem placeOfHeard (m : Int) (hs : List Hd) (x : Int) (A : Option Addr) (c : Nat) (w : World) (hv : vB m hs = true) (h : RdH w w.heap.size A hs) :
    Calls Try.prog 173 #[.slice A hs.length c, .int .i64 x] w fun e w' => e = .returned (.tuple #[.int .i64 (lead hs x : Int), .bool (known hs x)]) ∧ Below w.heap.size w w' := by
  have X := Lib.hid (search m hs x A c w hv h)
  generalize (lead hs x : Int) = l at *
  generalize known hs x = O at *
  generalize hs.length = n at *
  clear h hv
  go_enter Try.func173, Try.ntmps173
  go_wp2_with fail
  refine X.out.mono ?_
  rintro e w2 ⟨rfl, hb2⟩
  go_wp2_with fail
  go_ret2
  exact ⟨rfl, hb2⟩

end Go.Proofs.Ytdjcbfeilkepmaa.rcvg
