/- Chapter 3 with lists of names and parts: NearestName of spec and impl, placesBetween, NamePart of impl, in the words of plain mathematics. -/
import Derived.Test.YtjfhkbpkiblkmaaDoorNamS
import Derived.Test.YtjfhkbpkiblkmaaDoorNamI
import Derived.Test.YtjfhkbpkiblkmaaDoorStrs2
namespace Go.Proofs.YtjfhkbpkiblkmaaDoor.namn
open Go.RowKit Go.Proofs.YtjfhkbpkiblkmaaDoor.bin Go.Proofs.YtjfhkbpkiblkmaaDoor.good_ Go.Proofs.YtjfhkbpkiblkmaaDoor.bitsi Go.Proofs.YtjfhkbpkiblkmaaDoor.in_ Go.Proofs.YtjfhkbpkiblkmaaDoor.nam Go.Proofs.YtjfhkbpkiblkmaaDoor.strs

theorem nbT_yes {s : ByteArray} (h : nmB s = true) : nbT s = nbA s := by unfold nbT; rw [h]; rfl
/-- What FieldOf says of a part. -/
theorem part_fld {s : ByteArray} {p : Int} (h : npB s p = true) : fldB (nbA s) (24 * p) 24 = true ∧ fldV (nbA s) (24 * p) 24 = npV s p := by
  have hp : 0 ≤ p ∧ p ≤ 1 := by
    unfold npB at h
    rw [Bool.and_eq_true] at h
    exact of_decide_eq_true h.2
  have hf : fldB (nbA s) (24 * p) 24 = true := by
    unfold fldB
    rw [nbA_rd, nbA_size, Bool.true_and]
    exact decide_eq_true (by omega)
  refine ⟨hf, ?_⟩
  unfold fldV npV
  rw [hf, h]
theorem namePart (s : ByteArray) (p : Int) (w : World) :
    Calls Tryd.prog 14 #[.string s, .int .i64 p] w fun e w' => e = .returned (.tuple #[.int .i64 (npV s p), .bool (npB s p)]) ∧ Below w.heap.size w w' := by
  have hc := fun w => nami.nameBits s w
  cases hb : nmB s
  · have HN := Lib.hid (nams.np_no (s := s) (p := p) (by unfold npB; rw [hb]; rfl))
    rw [hb] at hc
    have HC := Lib.hid hc
    clear hc hb
    generalize nbT s = t at *
    go_enter Tryd.func14, Tryd.ntmps14
    go_wp2_with fail
    refine (HC.out _).mono ?_
    rintro e w' ⟨rfl, hb1⟩
    go_wp2_with fail
    go_ret2
    exact ⟨HN.out, hb1⟩
  · rw [hb, nbT_yes hb] at hc
    have HC := Lib.hid hc
    by_cases h0 : p < 0
    · have HN := Lib.hid (nams.np_no (s := s) (p := p) (by unfold npB; rw [decide_eq_false (by omega)]; simp))
      have d0 : decide (p < 0) = true := decide_eq_true h0
      clear hc hb h0
      generalize nbA s = t at *
      go_enter Tryd.func14, Tryd.ntmps14
      go_wp2_with fail
      refine (HC.out _).mono ?_
      rintro e w' ⟨rfl, hb1⟩
      go_wp2_with fail
      go_ret2
      exact ⟨HN.out, hb1⟩
    · have d0 : decide (p < 0) = false := decide_eq_false h0
      by_cases h1 : 1 < p
      · have HN := Lib.hid (nams.np_no (s := s) (p := p) (by unfold npB; rw [decide_eq_false (by omega)]; simp))
        have d1 : decide (1 < p) = true := decide_eq_true h1
        clear hc hb h0 h1
        generalize nbA s = t at *
        go_enter Tryd.func14, Tryd.ntmps14
        go_wp2_with fail
        refine (HC.out _).mono ?_
        rintro e w' ⟨rfl, hb1⟩
        go_wp2_with fail
        go_ret2
        exact ⟨HN.out, hb1⟩
      · have d1 : decide (1 < p) = false := decide_eq_false h1
        have hy : npB s p = true := by unfold npB; rw [hb, decide_eq_true (by omega)]; rfl
        obtain ⟨f1, f2⟩ := part_fld hy
        have hf := fun w => fieldOf (nbA s) (24 * p) 24 w (by rw [nbA_size]; unfold maxLen; omega) (by omega) (by omega)
        rw [f1, f2, ← hy] at hf
        have HF := Lib.hid hf
        have HR := Lib.hid (show Ending.returned (.tuple #[.int .i64 (npV s p), .bool (npB s p)]) = .returned (.tuple #[.int .i64 (npV s p), .bool (npB s p)]) from rfl)
        have e1 : IntKind.i64.wrap (p * 24) = 24 * p := (IntWalk.i64_in _ (by omega)).trans (by omega)
        have e2 : p * 24 = 24 * p := by omega
        have g1 : 0 ≤ 24 * p := by omega
        have g2 : 24 * p ≤ 24 := by omega
        clear hc hf hb h0 h1 hy f1 f2
        generalize nbA s = t at *
        generalize npV s p = v at *
        generalize npB s p = b at *
        generalize 24 * p = q at *
        go_enter Tryd.func14, Tryd.ntmps14
        go_wp2_with fail
        refine (HC.out _).mono ?_
        rintro e w' ⟨rfl, hb1⟩
        go_wp2_with fail
        refine (HF.out _).mono ?_
        rintro e w2 ⟨rfl, rfl⟩
        go_wp2_with fail
        go_ret2
        exact ⟨rfl, hb1⟩

/-- The places in which a name's bits differ from others; are there any? -/
def pbB (x b : ByteArray) : Bool := nmB x && (rdB 2 64 b && decide (b.size = 48))
def pbV (x b : ByteArray) : Nat := if pbB x b then dst b x else 0
theorem pb_no {x b : ByteArray} (h : pbB x b = false) : Ending.returned (.tuple #[.int .i64 0, .bool false]) = .returned (.tuple #[.int .i64 (pbV x b), .bool (pbB x b)]) := int_no h
theorem pb_xor {x b : ByteArray} (h : nmB x = true) : xorB (nbT x) b = pbB x b := by
  unfold xorB pbB
  rw [nbT_yes h, nbA_rd, nbA_size, h]
  simp only [Bool.true_and]
  congr 1
  exact decide_eq_decide.2 (by omega)
theorem pb_ones {x b : ByteArray} (h : pbB x b = true) : rdB 2 64 (xorT (nbT x) b) = true ∧ onesV (xorT (nbT x) b) = pbV x b := by
  have hn : nmB x = true := by unfold pbB at h; rw [Bool.and_eq_true] at h; exact h.1
  have hx : xorB (nbT x) b = true := by rw [pb_xor hn]; exact h
  have hx2 := hx
  unfold xorB at hx2
  simp only [Bool.and_eq_true, decide_eq_true_eq] at hx2
  obtain ⟨⟨ha, hb⟩, hs⟩ := hx2
  have ht := xor_text ha hb hs
  have hr : rdB 2 64 (xorT (nbT x) b) = true := by
    unfold xorT
    rw [hx, if_pos rfl, ← ht]
    unfold rdB
    rw [Bool.and_eq_true]
    refine ⟨decide_eq_true ?_, ok_enc 2 (by omega) (by omega) _ _⟩
    have := (rd_ok ha).1
    have h2 : (⟨(enc 2 (nbT x).size (dec 2 (nbT x).data.toList ^^^ dec 2 b.data.toList)).toArray⟩ : ByteArray).size = (nbT x).size := enc_length _ _ _
    omega
  refine ⟨hr, ?_⟩
  unfold onesV pbV dst
  rw [hr, h]
  unfold xorT
  rw [hx, nbT_yes hn]
  rfl
theorem places (x b : ByteArray) (w : World) :
    Calls Tryd.prog 59 #[.string x, .string b] w fun e w' => e = .returned (.tuple #[.int .i64 (pbV x b), .bool (pbB x b)]) ∧ Below w.heap.size w w' := by
  have hc := fun w => nami.nameBits x w
  have HX := Lib.hid (fun w => xorBits (nbT x) b w)
  have hO := fun w => countOnes (xorT (nbT x) b) w
  cases hb : nmB x
  · have HN := Lib.hid (pb_no (x := x) (b := b) (by unfold pbB; rw [hb]; rfl))
    rw [hb] at hc
    have HC := Lib.hid hc
    clear hc hb hO
    generalize xorT (nbT x) b = u at *
    generalize xorB (nbT x) b = q at *
    generalize nbT x = t at *
    go_enter Tryd.func59, Tryd.ntmps59
    go_wp2_with fail
    refine (HC.out _).mono ?_
    rintro e w1 ⟨rfl, hb1⟩
    go_wp2_with fail
    refine (HX.out _).mono ?_
    rintro e w2 ⟨rfl, hb2⟩
    go_wp2_with fail
    go_ret2
    exact ⟨HN.out, hb1.trans (hb2.mono hb1.size)⟩
  · rw [hb] at hc
    rw [pb_xor hb] at HX
    have HC := Lib.hid hc
    cases hp : pbB x b
    · have HN := Lib.hid (pb_no hp)
      rw [hp] at HX HN
      clear hc hb hO hp
      generalize xorT (nbT x) b = u at *
      generalize nbT x = t at *
      go_enter Tryd.func59, Tryd.ntmps59
      go_wp2_with fail
      refine (HC.out _).mono ?_
      rintro e w1 ⟨rfl, hb1⟩
      go_wp2_with fail
      refine (HX.out _).mono ?_
      rintro e w2 ⟨rfl, hb2⟩
      go_wp2_with fail
      go_ret2
      exact ⟨HN.out, hb1.trans (hb2.mono hb1.size)⟩
    · obtain ⟨h1, h2⟩ := pb_ones hp
      rw [h1, h2] at hO
      have HO := Lib.hid hO
      rw [hp] at HX
      clear hc hb hO hp h1 h2
      generalize xorT (nbT x) b = u at *
      generalize nbT x = t at *
      generalize pbV x b = v at *
      go_enter Tryd.func59, Tryd.ntmps59
      go_wp2_with fail
      refine (HC.out _).mono ?_
      rintro e w1 ⟨rfl, hb1⟩
      go_wp2_with fail
      refine (HX.out _).mono ?_
      rintro e w2 ⟨rfl, hb2⟩
      go_wp2_with fail
      refine (HO.out _).mono ?_
      rintro e w3 ⟨rfl, rfl⟩
      go_wp2_with fail
      go_ret2
      exact ⟨rfl, hb1.trans (hb2.mono hb1.size)⟩

/-- The round's numbers in spec. -/
theorem s_lt {f : Nat → Nat} {k v L : Nat} (hv : v = f k) (hL : L = sL f k) (h : v < L) : k = sB f (k + 1) ∧ v = sL f (k + 1) ∧ false = sT f (k + 1) := by
  subst hv hL
  refine ⟨?_, ?_, ?_⟩
  · rw [sB, if_pos h]
  · rw [sL, if_pos h]
  · rw [sT, if_pos h]
theorem s_eq {f : Nat → Nat} {k v B L : Nat} (hv : v = f k) (hB : B = sB f k) (hL : L = sL f k) (h : v = L) : B = sB f (k + 1) ∧ L = sL f (k + 1) ∧ true = sT f (k + 1) := by
  subst hv hL hB
  refine ⟨?_, ?_, ?_⟩
  · rw [sB, if_neg (by omega)]
  · rw [sL, if_neg (by omega)]
  · rw [sT, if_neg (by omega), if_pos h]
theorem s_gt {f : Nat → Nat} {k v B L : Nat} {T : Bool} (hv : v = f k) (hB : B = sB f k) (hL : L = sL f k) (hT : T = sT f k) (h : L < v) : B = sB f (k + 1) ∧ L = sL f (k + 1) ∧ T = sT f (k + 1) := by
  subst hv hL hB hT
  refine ⟨?_, ?_, ?_⟩
  · rw [sB, if_neg (by omega)]
  · rw [sL, if_neg (by omega)]
  · rw [sT, if_neg (by omega), if_neg (by omega)]

def SS (f : Nat → Nat) (k B L : Nat) (T : Bool) : Prop := B = sB f k ∧ L = sL f k ∧ T = sT f k

theorem nr_len {xs : List ByteArray} {b : ByteArray} (h : ¬ (1 ≤ xs.length ∧ xs.length ≤ 20)) : nrB xs b = false := by unfold nrB; rw [decide_eq_false h]; rfl
theorem nr_rd {xs : List ByteArray} {b : ByteArray} (h : rdB 2 64 b = false) : nrB xs b = false := by unfold nrB; rw [h]; simp
theorem nr_48 {xs : List ByteArray} {b : ByteArray} (h : b.size ≠ 48) : nrB xs b = false := by unfold nrB; rw [decide_eq_false h]; simp
theorem nr_tw {xs : List ByteArray} {b : ByteArray} (h : true = sT (fun i => dst b (at_ xs i)) xs.length) : nrB xs b = false := by unfold nrB; rw [← h]; simp
theorem nr_all {xs : List ByteArray} {b : ByteArray} (h1 : 1 ≤ xs.length ∧ xs.length ≤ 20) (h2 : rdB 2 64 b = true) (h3 : b.size = 48) (h4 : xs.all nmB = true) (h5 : false = sT (fun i => dst b (at_ xs i)) xs.length) : nrB xs b = true := by
  unfold nrB; rw [decide_eq_true h1, h2, decide_eq_true h3, h4, ← h5]; rfl

set_option maxHeartbeats 1000000 in
theorem specNear (xs : List ByteArray) (A : Option Addr) (n c : Nat) (b : ByteArray) (w : World) (hw : weight xs ≤ 1048576) (hbm : b.size ≤ maxLen) (h : Rd w w.heap.size A n xs) :
    Calls Tryd.prog 28 #[.slice A n c, .string b] w fun e w' => e = .returned (.tuple #[.int .i64 (nrI xs b), .int .i64 (nrV xs b), .bool (nrB xs b)]) ∧ Below w.heap.size w w' := by
  have hl := h.1
  have hi := fun w => l1In n 1 20 w
  by_cases h1 : 1 ≤ xs.length ∧ xs.length ≤ 20
  · rw [show isIn n 1 20 = true from decide_eq_true (by omega)] at hi
    have HI := Lib.hid hi
    have hg := fun w => good b w hbm
    cases h2 : rdB 2 64 b
    · rw [h2] at hg
      have HG := Lib.hid hg
      have HN := Lib.hid (nr_no (nr_rd (xs := xs) h2))
      clear hi hg h1 h2 h hl hw hbm
      go_enter Tryd.func28, Tryd.ntmps28
      go_wp2_with (first
        | (go_at_call 56; refine (HI.out _).mono ?_; rintro e w' ⟨rfl, rfl⟩)
        | (go_at_call 50; refine (HG.out _).mono ?_; rintro e w' ⟨rfl, rfl⟩))
      go_ret3
      exact ⟨HN.out, Below.refl _ _⟩
    · rw [h2] at hg
      have HG := Lib.hid hg
      by_cases h3 : b.size = 48
      · have d3 : ((b.size : Int) != 48) = false := by rw [h3]; rfl
        have HR := Lib.hid h
        have HL := Lib.hid hl
        have hn20 : n ≤ 20 := by omega
        have HALL := Lib.hid (fun h4 h5 => nr_all h1 h2 h3 h4 h5)
        have HW := Lib.hid hw
        have H3 := Lib.hid h3
        clear hi hg h1 h2 h hl hbm hw h3
        go_enter Tryd.func28, Tryd.ntmps28
        go_wp2_with (first
          | (go_at_call 56; refine (HI.out _).mono ?_; rintro e w' ⟨rfl, rfl⟩)
          | (go_at_call 50; refine (HG.out _).mono ?_; rintro e w' ⟨rfl, rfl⟩))
        clear d3
        go_loopw [7, 8, 9, 10] (fun z l t i wr => ∃ (k B L : Nat) (T : Bool), k ≤ n ∧ i = .int .i64 k ∧ z = .int .i64 B ∧ l = .int .i64 L ∧ t = .bool T ∧ SS (fun i => dst b (at_ xs i)) k B L T ∧ oks xs k = true ∧ Below w.heap.size w wr) (fun _ _ _ i _ => n - (intOf i).toNat)
        case atStart => exact ⟨0, 0, 49, false, Nat.zero_le _, rfl, rfl, rfl, rfl, ⟨rfl, rfl, rfl⟩, rfl, Below.refl _ _⟩
        case round =>
          obtain ⟨k, B, L, T, hk, rfl, rfl, rfl, rfl, hss, hok, hb⟩ := hrel
          have HS := Lib.hid hss
          have HO := Lib.hid hok
          have hsz := hb.size
          have hL49 : L ≤ 49 := by rw [hss.2.1]; exact sL_le _ _
          have hBk : B ≤ k := by rw [hss.1]; exact sB_le _ _
          clear hss hok
          by_cases hlt : k < n
          · obtain ⟨b1, o1, x, rfl, hbl, hx, hc⟩ := (HR.out.below hb (Nat.le_refl _)).at_ hlt
            have hlt2 : (k : Int) < (n : Int) := by omega
            have hxm : x.size ≤ maxLen := by
              have h1 := weight_take hx
              have h2 : weight (xs.take (k + 1)) ≤ weight xs := by
                have := congrArg weight (List.take_append_drop (k + 1) xs)
                unfold weight at *
                rw [List.map_append, List.sum_append] at this
                omega
              have := HW.out
              unfold maxLen; omega
            have HC := Lib.hid (fun w => nams.name x w hxm)
            have HX := Lib.hid hx
            clear hx hxm
            cases hnm : nmB x
            · have HN := Lib.hid (nr_no (nr_bad (b := b) HX.out hnm))
              rw [hnm] at HC
              clear hnm
              go_wp2_with fail
              refine (HC.out _).mono ?_
              rintro e w1 ⟨rfl, rfl⟩
              go_wp2_with fail
              go_ret3
              exact ⟨HN.out, hb⟩
            · have HBi := Lib.hid (fun w => nams.bits x w hnm)
              have HXo := Lib.hid (fun w => hexs.l2Xor (nbA x) b w (by rw [nbA_size, H3.out]) (by rw [nbA_size]; omega))
              have hv : ones (List.zipWith df (nbA x).data.toList b.data.toList) = dst b (at_ xs k) := by rw [at_of HX.out]; rfl
              have HON := Lib.hid (fun w => onesN ⟨(List.zipWith df (nbA x).data.toList b.data.toList).toArray⟩ w (by
                show (List.zipWith df (nbA x).data.toList b.data.toList).length ≤ 64
                rw [List.length_zipWith]; have : (nbA x).data.toList.length = 48 := nbL_length x.data.toList 8; omega))
              have HV := Lib.hid hv
              have hv48 : ones (List.zipWith df (nbA x).data.toList b.data.toList) ≤ 48 := dst_le b x
              have HOK := Lib.hid (oks_snoc HO.out HX.out hnm)
              rw [hnm] at HC
              rw [show (⟨(List.zipWith df (nbA x).data.toList b.data.toList).toArray⟩ : ByteArray).data.toList = List.zipWith df (nbA x).data.toList b.data.toList from rfl] at HON
              clear hnm hv
              generalize ones (List.zipWith df (nbA x).data.toList b.data.toList) = v at *
              generalize (⟨(List.zipWith df (nbA x).data.toList b.data.toList).toArray⟩ : ByteArray) = u at *
              generalize nbA x = t at *
              by_cases q1 : v < L
              · have d1 : decide ((v : Int) < (L : Int)) = true := decide_eq_true (by omega)
                have d2 : decide (v < L) = true := decide_eq_true q1
                have HZ := Lib.hid (s_lt (f := fun i => dst b (at_ xs i)) HV.out HS.out.2.1 q1)
                clear q1
                go_wp2_with fail
                refine (HC.out _).mono ?_
                rintro e w1 ⟨rfl, rfl⟩
                go_wp2_with fail
                refine (HBi.out _).mono ?_
                rintro e w1 ⟨rfl, rfl⟩
                go_wp2_with fail
                refine (HXo.out _).mono ?_
                rintro e w1 ⟨rfl, hb1⟩
                have hb2 := hb.trans (hb1.mono hsz)
                go_wp2_with fail
                refine (HON.out _).mono ?_
                rintro e w2 ⟨rfl, rfl⟩
                go_wp2_with fail
                go_roundw
                case rel => exact ⟨k + 1, k, v, false, by omega, by go_num, rfl, rfl, rfl, HZ.out, HOK.out, hb2⟩
                case measure => simp [intOf]; omega
              · have d1 : decide ((v : Int) < (L : Int)) = false := decide_eq_false (by omega)
                have d2 : decide (v < L) = false := decide_eq_false q1
                by_cases q2 : v = L
                · have d3 : ((v : Int) == (L : Int)) = true := by rw [q2]; simp
                  have HZ := Lib.hid (s_eq (f := fun i => dst b (at_ xs i)) HV.out HS.out.1 HS.out.2.1 q2)
                  have d4 : (v == L) = true := by rw [q2]; simp
                  clear q1 q2
                  go_wp2_with fail
                  refine (HC.out _).mono ?_
                  rintro e w1 ⟨rfl, rfl⟩
                  go_wp2_with fail
                  refine (HBi.out _).mono ?_
                  rintro e w1 ⟨rfl, rfl⟩
                  go_wp2_with fail
                  refine (HXo.out _).mono ?_
                  rintro e w1 ⟨rfl, hb1⟩
                  have hb2 := hb.trans (hb1.mono hsz)
                  go_wp2_with fail
                  refine (HON.out _).mono ?_
                  rintro e w2 ⟨rfl, rfl⟩
                  go_wp2_with fail
                  go_roundw
                  case rel => exact ⟨k + 1, B, L, true, by omega, by go_num, rfl, rfl, rfl, HZ.out, HOK.out, hb2⟩
                  case measure => simp [intOf]; omega
                · have d3 : ((v : Int) == (L : Int)) = false := by simp; omega
                  have HZ := Lib.hid (s_gt (f := fun i => dst b (at_ xs i)) HV.out HS.out.1 HS.out.2.1 HS.out.2.2 (by omega))
                  have d4 : (v == L) = false := by simp; omega
                  clear q1 q2
                  go_wp2_with fail
                  refine (HC.out _).mono ?_
                  rintro e w1 ⟨rfl, rfl⟩
                  go_wp2_with fail
                  refine (HBi.out _).mono ?_
                  rintro e w1 ⟨rfl, rfl⟩
                  go_wp2_with fail
                  refine (HXo.out _).mono ?_
                  rintro e w1 ⟨rfl, hb1⟩
                  have hb2 := hb.trans (hb1.mono hsz)
                  go_wp2_with fail
                  refine (HON.out _).mono ?_
                  rintro e w2 ⟨rfl, rfl⟩
                  go_wp2_with fail
                  go_roundw
                  case rel => exact ⟨k + 1, B, L, T, by omega, by go_num, rfl, rfl, rfl, HZ.out, HOK.out, hb2⟩
                  case measure => simp [intOf]; omega
          · obtain rfl : k = n := by omega
            have hs := HS.out
            rw [← HL.out] at hs
            have ho := HO.out
            rw [← HL.out] at ho
            cases T
            · have HN := Lib.hid (nr_yes (HALL.out (oks_all ho) hs.2.2) hs.1 hs.2.1)
              clear hs ho
              go_wp2_with fail
              go_ret3
              exact ⟨HN.out, hb⟩
            · have HN := Lib.hid (nr_no (nr_tw hs.2.2))
              clear hs ho
              go_wp2_with fail
              go_ret3
              exact ⟨HN.out, hb⟩
      · have d3 : ((b.size : Int) != 48) = true := by simp; omega
        have HN := Lib.hid (nr_no (nr_48 (xs := xs) h3))
        clear hi hg h1 h2 h hl hw hbm h3
        go_enter Tryd.func28, Tryd.ntmps28
        go_wp2_with (first
          | (go_at_call 56; refine (HI.out _).mono ?_; rintro e w' ⟨rfl, rfl⟩)
          | (go_at_call 50; refine (HG.out _).mono ?_; rintro e w' ⟨rfl, rfl⟩))
        go_ret3
        exact ⟨HN.out, Below.refl _ _⟩
  · rw [show isIn n 1 20 = false from decide_eq_false (by omega)] at hi
    have HI := Lib.hid hi
    have HN := Lib.hid (nr_no (nr_len (b := b) h1))
    clear hi h1 h hl hw hbm
    go_enter Tryd.func28, Tryd.ntmps28
    go_wp2_with (go_at_call 56; refine (HI.out _).mono ?_; rintro e w' ⟨rfl, rfl⟩)
    go_ret3
    exact ⟨HN.out, Below.refl _ _⟩

/-- The round's numbers in impl: nothing yet, or as in spec. -/
def II (f : Nat → Nat) (g : Bool) (k B L : Nat) (a : Bool) : Prop := (k = 0 ∧ B = 0 ∧ L = 65 ∧ a = false) ∨ (0 < k ∧ g = true ∧ B = sB f k ∧ L = sL f k ∧ a = !sT f k)
theorem i_lt {f : Nat → Nat} {g a : Bool} {k v B L : Nat} (h : II f g k B L a) (hg : g = true) (hv : v = f k) (h48 : v ≤ 48) (hlt : v < L) : II f g (k + 1) k v true := by
  subst hv
  rcases h with ⟨rfl, _, _, _⟩ | ⟨_, _, _, hL, _⟩
  · refine .inr ⟨by omega, hg, ?_, ?_, ?_⟩
    · rw [sB, if_pos (show f 0 < sL f 0 by rw [sL]; omega)]
    · rw [sL, if_pos (show f 0 < sL f 0 by rw [sL]; omega)]
    · rw [sT, if_pos (show f 0 < sL f 0 by rw [sL]; omega)]; rfl
  · refine .inr ⟨by omega, hg, ?_, ?_, ?_⟩
    · rw [sB, if_pos (by omega)]
    · rw [sL, if_pos (by omega)]
    · rw [sT, if_pos (by omega)]; rfl
theorem i_eq {f : Nat → Nat} {g a : Bool} {k v B L : Nat} (h : II f g k B L a) (hg : g = true) (hv : v = f k) (h48 : v ≤ 48) (he : v = L) : II f g (k + 1) B L false := by
  subst hv
  rcases h with ⟨_, _, _, _⟩ | ⟨_, _, hB, hL, _⟩
  · omega
  · refine .inr ⟨by omega, hg, ?_, ?_, ?_⟩
    · rw [sB, if_neg (by omega)]; exact hB
    · rw [sL, if_neg (by omega)]; exact hL
    · rw [sT, if_neg (by omega), if_pos (by omega)]; rfl
theorem i_gt {f : Nat → Nat} {g a : Bool} {k v B L : Nat} (h : II f g k B L a) (hg : g = true) (hv : v = f k) (h48 : v ≤ 48) (hlt : L < v) : II f g (k + 1) B L a := by
  subst hv
  rcases h with ⟨_, _, _, _⟩ | ⟨_, _, hB, hL, ha⟩
  · omega
  · refine .inr ⟨by omega, hg, ?_, ?_, ?_⟩
    · rw [sB, if_neg (by omega)]; exact hB
    · rw [sL, if_neg (by omega)]; exact hL
    · rw [sT, if_neg (by omega), if_neg (by omega)]; exact ha
/-- Are these 48 bits? -/
def gb (b : ByteArray) : Bool := rdB 2 64 b && decide (b.size = 48)
theorem pb_gb {x b : ByteArray} (h : pbB x b = true) : nmB x = true ∧ gb b = true := by unfold pbB at h; rw [Bool.and_eq_true] at h; exact h
theorem nr_pb {xs : List ByteArray} {b x : ByteArray} {k : Nat} (hx : xs[k]? = some x) (h : pbB x b = false) : nrB xs b = false := by
  cases hn : nmB x
  · exact nr_bad hx hn
  · unfold pbB at h
    rw [hn, Bool.true_and, Bool.and_eq_false_iff] at h
    rcases h with h | h
    · exact nr_rd h
    · exact nr_48 (of_decide_eq_false h)
theorem nr_fin {xs : List ByteArray} {b : ByteArray} {B L : Nat} (h : II (fun i => dst b (at_ xs i)) (gb b) xs.length B L true) (h20 : xs.length ≤ 20) (ho : xs.all nmB = true) :
    nrB xs b = true ∧ B = sB (fun i => dst b (at_ xs i)) xs.length ∧ L = sL (fun i => dst b (at_ xs i)) xs.length := by
  rcases h with ⟨_, _, _, ha⟩ | ⟨h0, hg, hB, hL, ha⟩
  · cases ha
  · refine ⟨?_, hB, hL⟩
    unfold gb at hg
    rw [Bool.and_eq_true, decide_eq_true_eq] at hg
    exact nr_all ⟨h0, h20⟩ hg.1 hg.2 ho (by simpa using ha.symm)
theorem nr_fin0 {xs : List ByteArray} {b : ByteArray} {B L : Nat} (h : II (fun i => dst b (at_ xs i)) (gb b) xs.length B L false) : nrB xs b = false := by
  rcases h with ⟨h0, _, _, _⟩ | ⟨_, _, _, _, ha⟩
  · exact nr_len (by omega)
  · exact nr_tw (by simpa using ha.symm)
theorem i_le {f : Nat → Nat} {g a : Bool} {k B L : Nat} (h : II f g k B L a) : B ≤ k ∧ L ≤ 65 := by
  rcases h with ⟨h0, h1, h2, _⟩ | ⟨_, _, hB, hL, _⟩
  · omega
  · have := sB_le f k; have := sL_le f k; omega

set_option maxHeartbeats 1000000 in
theorem implNear (xs : List ByteArray) (A : Option Addr) (n c : Nat) (b : ByteArray) (w : World) (h : Rd w w.heap.size A n xs) :
    Calls Tryd.prog 27 #[.slice A n c, .string b] w fun e w' => e = .returned (.tuple #[.int .i64 (nrI xs b), .int .i64 (nrV xs b), .bool (nrB xs b)]) ∧ Below w.heap.size w w' := by
  have hl := h.1
  by_cases h1 : (20 : Int) < (n : Int)
  · have d1 : decide ((20 : Int) < (n : Int)) = true := decide_eq_true h1
    have HN := Lib.hid (nr_no (nr_len (xs := xs) (b := b) (by omega)))
    clear h1 h hl
    go_enter Tryd.func27, Tryd.ntmps27
    go_wp2_with fail
    go_ret3
    exact ⟨HN.out, Below.refl _ _⟩
  · have d1 : decide ((20 : Int) < (n : Int)) = false := decide_eq_false h1
    have hn20 : n ≤ 20 := by omega
    have HR := Lib.hid h
    have HL := Lib.hid hl
    clear h1 h hl
    go_enter Tryd.func27, Tryd.ntmps27
    go_wp2_with fail
    clear d1
    go_loopw [7, 8, 9, 19] (fun z l t i wr => ∃ (k B L : Nat) (T : Bool), k ≤ n ∧ i = .int .i64 k ∧ z = .int .i64 B ∧ l = .int .i64 L ∧ t = .bool T ∧ II (fun i => dst b (at_ xs i)) (gb b) k B L T ∧ oks xs k = true ∧ Below w.heap.size w wr) (fun _ _ _ i _ => n - (intOf i).toNat)
    case atStart => exact ⟨0, 0, 65, false, Nat.zero_le _, rfl, rfl, rfl, rfl, .inl ⟨rfl, rfl, rfl, rfl⟩, rfl, Below.refl _ _⟩
    case round =>
      obtain ⟨k, B, L, T, hk, rfl, rfl, rfl, rfl, hss, hok, hb⟩ := hrel
      have HS := Lib.hid hss
      have HO := Lib.hid hok
      have hsz := hb.size
      obtain ⟨hBk, hL65⟩ := i_le hss
      clear hss hok
      by_cases hlt : k < n
      · obtain ⟨b1, o1, x, rfl, hbl, hx, hc⟩ := (HR.out.below hb (Nat.le_refl _)).at_ hlt
        have hlt2 : (k : Int) < (n : Int) := by omega
        have HP := Lib.hid (fun w => places x b w)
        have HX := Lib.hid hx
        clear hx
        cases hp : pbB x b
        · have HN := Lib.hid (nr_no (nr_pb HX.out hp))
          rw [hp] at HP
          clear hp
          generalize pbV x b = v at *
          go_wp2_with fail
          refine (HP.out _).mono ?_
          rintro e w1 ⟨rfl, hb1⟩
          go_wp2_with fail
          go_ret3
          exact ⟨HN.out, hb.trans (hb1.mono hsz)⟩
        · obtain ⟨hnm, hgb⟩ := pb_gb hp
          have hv : pbV x b = dst b (at_ xs k) := by unfold pbV; rw [hp, at_of HX.out]; rfl
          have hv48 : pbV x b ≤ 48 := by rw [hv]; exact dst_le _ _
          have HV := Lib.hid hv
          have HG := Lib.hid hgb
          have HOK := Lib.hid (oks_snoc HO.out HX.out hnm)
          rw [hp] at HP
          clear hp hv hnm hgb
          generalize pbV x b = v at *
          by_cases q1 : v < L
          · have d1 : decide ((v : Int) < (L : Int)) = true := decide_eq_true (by omega)
            have d2 : decide (v < L) = true := decide_eq_true q1
            have HZ := Lib.hid (i_lt HS.out HG.out HV.out hv48 q1)
            clear q1
            go_wp2_with fail
            refine (HP.out _).mono ?_
            rintro e w1 ⟨rfl, hb1⟩
            have hb2 := hb.trans (hb1.mono hsz)
            go_wp2_with fail
            go_roundw
            case rel => exact ⟨k + 1, k, v, true, by omega, by go_num, rfl, rfl, rfl, HZ.out, HOK.out, hb2⟩
            case measure => simp [intOf]; omega
          · have d1 : decide ((v : Int) < (L : Int)) = false := decide_eq_false (by omega)
            have d2 : decide (v < L) = false := decide_eq_false q1
            by_cases q2 : v = L
            · have d3 : ((v : Int) == (L : Int)) = true := by rw [q2]; simp
              have HZ := Lib.hid (i_eq HS.out HG.out HV.out hv48 q2)
              have d4 : (v == L) = true := by rw [q2]; simp
              clear q1 q2
              go_wp2_with fail
              refine (HP.out _).mono ?_
              rintro e w1 ⟨rfl, hb1⟩
              have hb2 := hb.trans (hb1.mono hsz)
              go_wp2_with fail
              go_roundw
              case rel => exact ⟨k + 1, B, L, false, by omega, by go_num, rfl, rfl, rfl, HZ.out, HOK.out, hb2⟩
              case measure => simp [intOf]; omega
            · have d3 : ((v : Int) == (L : Int)) = false := by simp; omega
              have HZ := Lib.hid (i_gt HS.out HG.out HV.out hv48 (by omega))
              have d4 : (v == L) = false := by simp; omega
              clear q1 q2
              go_wp2_with fail
              refine (HP.out _).mono ?_
              rintro e w1 ⟨rfl, hb1⟩
              have hb2 := hb.trans (hb1.mono hsz)
              go_wp2_with fail
              go_roundw
              case rel => exact ⟨k + 1, B, L, T, by omega, by go_num, rfl, rfl, rfl, HZ.out, HOK.out, hb2⟩
              case measure => simp [intOf]; omega
      · obtain rfl : k = n := by omega
        have hs := HS.out
        rw [← HL.out] at hs
        have ho := HO.out
        rw [← HL.out] at ho
        cases T
        · have HN := Lib.hid (nr_no (nr_fin0 hs))
          clear hs ho
          go_wp2_with fail
          go_ret3
          exact ⟨HN.out, hb⟩
        · obtain ⟨e1, e2, e3⟩ := nr_fin hs (by rw [HL.out]; exact hn20) (oks_all ho)
          have HN := Lib.hid (nr_yes e1 e2 e3)
          clear hs ho e1 e2 e3
          go_wp2_with fail
          go_ret3
          exact ⟨HN.out, hb⟩
end Go.Proofs.YtjfhkbpkiblkmaaDoor.namn
