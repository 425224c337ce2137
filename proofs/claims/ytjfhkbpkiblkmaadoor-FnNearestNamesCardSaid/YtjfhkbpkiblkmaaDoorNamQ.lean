/- Chapter 3: ParseNameBits of impl, JoinNameParts of spec and impl. -/
import Derived.Test.YtjfhkbpkiblkmaaDoorNamP
namespace Go.Proofs.YtjfhkbpkiblkmaaDoor.namq
open Go.RowKit Go.Proofs.YtjfhkbpkiblkmaaDoor.bin Go.Proofs.YtjfhkbpkiblkmaaDoor.good_ Go.Proofs.YtjfhkbpkiblkmaaDoor.bitsi Go.Proofs.YtjfhkbpkiblkmaaDoor.in_ Go.Proofs.YtjfhkbpkiblkmaaDoor.nam Go.Proofs.YtjfhkbpkiblkmaaDoor.namp

/-- The first k letters are in the row. -/
def rowL (t : ByteArray) (k : Nat) : List UInt8 := ltL t.data.toList k ++ List.replicate (8 - k) 0
theorem rowL_length (t : ByteArray) {k : Nat} (h : k ≤ 8) : (rowL t k).length = 8 := by
  unfold rowL; rw [List.length_append, ltL_length, List.length_replicate]; omega
theorem rowL_set (t : ByteArray) {k : Nat} (h : k < 8) : (Lib.byteCells (rowL t k)).set k (.int .u8 ((lt t.data.toList k).toNat : Nat)) = Lib.byteCells (rowL t (k + 1)) := by
  unfold Lib.byteCells
  rw [← List.map_set (f := fun b : UInt8 => Value.int .u8 (b.toNat : Int)) (l := rowL t k) (i := k) (a := lt t.data.toList k)]
  congr 1
  unfold rowL
  rw [List.set_append, if_neg (by rw [ltL_length]; omega), ltL_length, Nat.sub_self, show 8 - k = (8 - (k + 1)) + 1 by omega, List.replicate_succ, List.set_cons_zero, ltL]
  simp
theorem rowL_full (t : ByteArray) : rowL t 8 = ltL t.data.toList 8 := by unfold rowL; simp
theorem rowL_at {t : ByteArray} {k : Nat} (h : k < 8) (h8 : k ≤ 8) : ∃ u, (Lib.byteCells (rowL t k))[k]? = some u :=
  ⟨_, List.getElem?_eq_getElem (by rw [Lib.byteCells_length, rowL_length t h8]; exact h)⟩
theorem row_zero : (madeCells (Value.cells (.int .u8 0)) (8 * 1)).toList = Lib.byteCells (rowL ⟨#[]⟩ 0) := by
  rw [Nat.mul_one]; exact toList_madeCells_one _ _
theorem rowL_zero (t : ByteArray) : rowL t 0 = rowL ⟨#[]⟩ 0 := rfl

/-- What stands after k rounds. -/
def GG (t : ByteArray) (k : Nat) : Prop := 0 < k → rdB 2 64 t = true ∧ 6 * k ≤ t.size
theorem pb_fld {t : ByteArray} {k : Nat} (hk : k < 8) (h : fldB t ((6 * k : Nat) : Int) 6 = false) : pbOk t = false := by
  cases hr : rdB 2 64 t
  · exact pb_rd hr
  · refine pb_48 fun h48 => ?_
    unfold fldB at h
    rw [hr, Bool.true_and, decide_eq_false_iff_not] at h
    omega
theorem fld_gp {t : ByteArray} {k : Nat} (h : fldB t ((6 * k : Nat) : Int) 6 = true) : fldV t ((6 * k : Nat) : Int) 6 = dec 2 (gp t.data.toList k) ∧ rdB 2 64 t = true ∧ 6 * (k + 1) ≤ t.size := by
  have h2 := h
  unfold fldB at h2
  rw [Bool.and_eq_true, decide_eq_true_eq] at h2
  refine ⟨?_, h2.1, by omega⟩
  unfold fldV
  rw [h, if_pos rfl, ← gp_ext]
  have e1 : (((6 * k : Nat) : Int)).toNat = 6 * k := by omega
  have e2 : (((6 * k : Nat) : Int) + 6).toNat = 6 * k + 6 := by omega
  rw [e1, e2]
theorem pb_lo {t : ByteArray} {k : Nat} (hk : k < 8) (h : lfB (dec 2 (gp t.data.toList k) : Nat) = false) : pbOk t = false := by
  cases hp : pbOk t
  · rfl
  · unfold pbOk at hp
    rw [Bool.and_eq_true] at hp
    have := (pn_lt hp.2 hk).2
    unfold lfB at h
    rw [loI_nat, decide_eq_false_iff_not] at h
    omega
theorem letter_of (t : ByteArray) (k : Nat) (w : World) : Calls Tryd.prog 21 #[.int .i64 (dec 2 (gp t.data.toList k) : Nat)] w fun e w' => e = .returned (.tuple #[.int .u8 ((lt t.data.toList k).toNat : Nat), .bool (lfB (dec 2 (gp t.data.toList k) : Nat))]) ∧ w = w' := by
  have := nami.letterOf (dec 2 (gp t.data.toList k) : Nat) w
  have e : loI (dec 2 (gp t.data.toList k) : Nat) = ((lt t.data.toList k).toNat : Nat) := by rw [loI_nat, ← lob_toNat]; rfl
  rw [e] at this
  exact this
theorem infoU : (Tryd.prog.info? 5).map (fun i => (i.zero, i.size, i.bytes)) = some (some (.int .u8 0), 1, 1) := by kernel_rfl
theorem own_byt {w : World} {B g : Nat} {l : List UInt8} (h : w.ownsRow B 5 1 (.slice (some ⟨g, 0, none⟩) 8 8) 8 (Lib.byteCells l)) : Byt w g l := fun j hj => by
  have := h.cells (g := g) rfl j (.int .u8 (l[j].toNat : Int)) (by unfold Lib.byteCells; rw [List.getElem?_map, List.getElem?_eq_getElem hj]; rfl)
  rwa [Addr.add_lit, Nat.zero_add] at this
theorem conv_trim {w : World} {g cap r : Nat} {l : List UInt8} (h : Byt w g l) (hr : (trim l).length = r) : (convert 22 9 (.slice (some ⟨g, 0, none⟩) r cap)).run Tryd.prog w = .ok (.string ⟨(trim l).toArray⟩) w := by
  subst hr
  refine run_convert_bytes_back _ _ _ 5 _ cap (trim l) Tryd.underlying22 Tryd.underlying5 Tryd.underlying9 ?_
  intro j hj
  have h1 := trim_le l
  have h2 := h j (by omega)
  have e : (trim l)[j] = l[j]'(by omega) := by
    have e1 : (trim l)[j]? = l[j]? := by
      conv => lhs; rw [trim_take l]
      rw [List.getElem?_take, if_pos hj]
    rw [List.getElem?_eq_getElem hj, List.getElem?_eq_getElem (by omega)] at e1
    exact Option.some.inj e1
  rw [Addr.add_lit, Nat.zero_add, e]
  exact h2

set_option maxRecDepth 100000 in
set_option maxHeartbeats 2000000 in
theorem implParse (t : ByteArray) (w : World) (hm : t.size ≤ maxLen) :
    Calls Tryd.prog 13 #[.string t] w fun e w' => e = .returned (.tuple #[.string (pbS t), .bool (pbOk t)]) ∧ Below w.heap.size w w' := by
  obtain ⟨i0, hi, hz0, hz1, hz2⟩ := info_parts infoU
  have HM := Lib.hid hm
  clear hm
  go_enter Tryd.func13, Tryd.ntmps13
  go_wp2_with (at_make; refine wpList_make_full _ rfl _ _ 22 rfl w.heap.size 5 i0 (.int .u8 0) 1 Tryd.underlying22 hi hz0 hz1 _ _ _ _ 8 rfl rfl rfl rfl (by rw [hz2]; omega) (by unfold maxLen; omega) (Nat.le_refl _) ?_; intro w1 hown hg)
  have hown0 : w1.ownsRow w.heap.size 5 1 (.slice (some ⟨w.heap.size, 0, none⟩) 8 8) 8 (Lib.byteCells (rowL t 0)) := by
    rw [rowL_zero t, ← row_zero]; exact hown
  have hb1 : Below w.heap.size w w1 := (Below.refl _ _).grown hg (Nat.le_refl _) (fun k e => by cases e)
  clear hown hg
  go_loopw [16] (fun i wr => ∃ k : Nat, k ≤ 8 ∧ i = .int .i64 k ∧ Below w.heap.size w wr ∧ wr.ownsRow w.heap.size 5 1 (.slice (some ⟨w.heap.size, 0, none⟩) 8 8) 8 (Lib.byteCells (rowL t k)) ∧ GG t k) (fun i _ => 8 - (intOf i).toNat)
  case atStart => exact ⟨0, Nat.zero_le _, rfl, hb1, hown0, fun h => absurd h (by omega)⟩
  case round =>
    obtain ⟨k, hk, rfl, hb, hown, hgg⟩ := hrel
    have HG := Lib.hid hgg
    clear hb1 hown0 hgg
    by_cases hlt : k < 8
    · have e1 : IntKind.i64.wrap ((k : Int) * 6) = ((6 * k : Nat) : Int) := (IntWalk.i64_in _ (by omega)).trans (by omega)
      have e2 : (k : Int) * 6 = ((6 * k : Nat) : Int) := by omega
      have HF := Lib.hid (fun w => fieldOf t ((6 * k : Nat) : Int) 6 w HM.out (by omega) (by omega))
      cases hf : fldB t ((6 * k : Nat) : Int) 6
      · have HN := Lib.hid (pb_no (pb_fld hlt hf))
        have hv : fldV t ((6 * k : Nat) : Int) 6 = 0 := by unfold fldV; rw [hf]; rfl
        rw [hf, hv] at HF
        have HL := Lib.hid (fun w => nami.letterOf 0 w)
        clear hf hv
        generalize loI 0 = x at *
        generalize lfB 0 = y at *
        generalize 6 * k = q at *
        go_wp2_with fail
        refine (HF.out _).mono ?_
        rintro e w2 ⟨rfl, rfl⟩
        go_wp2_with fail
        refine (HL.out _).mono ?_
        rintro e w2 ⟨rfl, rfl⟩
        go_wp2_with fail
        go_ret2
        exact ⟨HN.out, hb⟩
      · obtain ⟨hv, hr, h6⟩ := fld_gp hf
        have HGG := Lib.hid (show GG t (k + 1) from fun _ => ⟨hr, h6⟩)
        rw [hf, hv] at HF
        have HL := Lib.hid (fun w => letter_of t k w)
        have hcl := byte_lt (lt t.data.toList k)
        have hset := rowL_set t hlt
        cases hl : lfB (dec 2 (gp t.data.toList k) : Nat)
        · have HN := Lib.hid (pb_no (pb_lo hlt hl))
          rw [hl] at HL
          clear hf hv hr h6 hl hset
          generalize dec 2 (gp t.data.toList k) = d at *
          generalize lt t.data.toList k = c at *
          generalize 6 * k = q at *
          go_wp2_with fail
          refine (HF.out _).mono ?_
          rintro e w2 ⟨rfl, rfl⟩
          go_wp2_with fail
          refine (HL.out _).mono ?_
          rintro e w2 ⟨rfl, rfl⟩
          go_wp2_with fail
          go_ret2
          exact ⟨HN.out, hb⟩
        · rw [hl] at HL
          obtain ⟨u, hu⟩ := rowL_at (t := t) hlt hk
          have hcw := (hown.cellAt k (by omega)).trans hu
          have hfw := hown.frozenAt k
          have hst := (hown.stored k (.int .u8 ((lt t.data.toList k).toNat : Nat))).1
          rw [hset] at hst
          clear hf hv hr h6 hl hset hu
          generalize dec 2 (gp t.data.toList k) = d at *
          generalize lt t.data.toList k = c at *
          generalize 6 * k = q at *
          have hlt2 : (k : Int) < 8 := by omega
          go_wp2_with fail
          refine (HF.out _).mono ?_
          rintro e w2 ⟨rfl, rfl⟩
          go_wp2_with fail
          refine (HL.out _).mono ?_
          rintro e w2 ⟨rfl, rfl⟩
          go_wp2_with fail
          go_roundw
          case rel => exact ⟨k + 1, by omega, by go_num, hb.setCell (p := ⟨w.heap.size, k, none⟩) (Nat.le_refl _) _, hst, HGG.out⟩
          case measure => simp [intOf]; omega
    · obtain rfl : k = 8 := by omega
      have hg := HG.out (by omega)
      rw [rowL_full] at hown
      have hbt := own_byt hown
      have hln := ltL_length t.data.toList 8
      have htr := trimRight w.heap.size 8 (ltL t.data.toList 8) wr hbt (by rw [hln]; omega) (by rw [hln]; omega) (by omega)
      rw [hln] at htr
      have HTR := Lib.hid htr
      have htl := trim_le (ltL t.data.toList 8)
      rw [hln] at htl
      have hcv := conv_trim (cap := 8) hbt rfl
      have HNb := Lib.hid (fun w => nami.nameBits ⟨(trim (ltL t.data.toList 8)).toArray⟩ w)
      have hlist : (⟨(trim (ltL t.data.toList 8)).toArray⟩ : ByteArray).data.toList = trim (ltL t.data.toList 8) := rfl
      have hpb : pbOk t = pnB t.data.toList := by unfold pbOk; rw [hg.1]; rfl
      cases hp : pnB t.data.toList
      · have HN := Lib.hid (pb_no (t := t) (by rw [hpb]; exact hp))
        cases hn : nmB ⟨(trim (ltL t.data.toList 8)).toArray⟩
        · rw [hn] at HNb
          clear hg hown hbt hln htr hlist hpb hp hn
          generalize nbT ⟨(trim (ltL t.data.toList 8)).toArray⟩ = u at *
          generalize (⟨(trim (ltL t.data.toList 8)).toArray⟩ : ByteArray) = a at *
          generalize (trim (ltL t.data.toList 8)).length = r at *
          go_wp2_with fail
          refine HTR.out.mono ?_
          rintro e w2 ⟨rfl, rfl⟩
          go_wp2_with fail
          refine (HNb.out _).mono ?_
          rintro e w2 ⟨rfl, hb2⟩
          go_wp2_with fail
          go_ret2
          exact ⟨HN.out, hb.trans (hb2.mono hb.size)⟩
        · have hne : nbL (⟨(trim (ltL t.data.toList 8)).toArray⟩ : ByteArray).data.toList 8 ≠ t.data.toList := fun he => by
            have := (pn_of hn he).1
            rw [hp] at this
            cases this
          have he2 := nb_ne hne
          rw [namn.nbT_yes hn, hn] at HNb
          clear hg hown hbt hln htr hlist hpb hp hn hne
          generalize nbA ⟨(trim (ltL t.data.toList 8)).toArray⟩ = u at *
          generalize (⟨(trim (ltL t.data.toList 8)).toArray⟩ : ByteArray) = a at *
          generalize (trim (ltL t.data.toList 8)).length = r at *
          go_wp2_with fail
          refine HTR.out.mono ?_
          rintro e w2 ⟨rfl, rfl⟩
          go_wp2_with fail
          refine (HNb.out _).mono ?_
          rintro e w2 ⟨rfl, hb2⟩
          go_wp2_with fail
          go_ret2
          exact ⟨HN.out, hb.trans (hb2.mono hb.size)⟩
      · have htp := trim_pn hp
        obtain ⟨_, _, hn1, hn2⟩ := pn_yes hp
        have hn : nmB ⟨(trim (ltL t.data.toList 8)).toArray⟩ = true := by unfold nmB; rw [hlist, htp]; exact hn1
        have he2 := nb_same (s := ⟨(trim (ltL t.data.toList 8)).toArray⟩) (t := t) (by rw [hlist, htp]; exact hn2)
        have HN := Lib.hid (pb_yes (t := t) (u := ⟨(trim (ltL t.data.toList 8)).toArray⟩) (by rw [hpb]; exact hp) (by rw [hlist, htp]))
        rw [namn.nbT_yes hn, hn] at HNb
        clear hg hown hbt hln htr hlist hpb hp hn htp hn1 hn2
        generalize nbA ⟨(trim (ltL t.data.toList 8)).toArray⟩ = u at *
        generalize (⟨(trim (ltL t.data.toList 8)).toArray⟩ : ByteArray) = a at *
        generalize (trim (ltL t.data.toList 8)).length = r at *
        go_wp2_with fail
        refine HTR.out.mono ?_
        rintro e w2 ⟨rfl, rfl⟩
        go_wp2_with fail
        refine (HNb.out _).mono ?_
        rintro e w2 ⟨rfl, hb2⟩
        go_wp2_with fail
        go_ret2
        exact ⟨HN.out, hb.trans (hb2.mono hb.size)⟩

/-- Both parts as a text; JoinNameParts's answer. -/
def jt (a b : Int) : ByteArray := ⟨(enc 2 24 a.toNat).toArray⟩ ++ ⟨(enc 2 24 b.toNat).toArray⟩
def p24 (a : Int) : Bool := decide (0 ≤ a ∧ a ≤ 16777215)
def jnB (a b : Int) : Bool := (p24 a && p24 b) && pbOk (jt a b)
def jnS (a b : Int) : ByteArray := if p24 a && p24 b then pbS (jt a b) else ⟨#[]⟩
theorem jn_no {a b : Int} (h : (p24 a && p24 b) = false) : Ending.returned (.tuple #[.string ⟨#[]⟩, .bool false]) = .returned (.tuple #[.string (jnS a b), .bool (jnB a b)]) := by
  unfold jnS jnB; rw [h]; rfl
theorem jn_yes {a b : Int} (h : (p24 a && p24 b) = true) : Ending.returned (.tuple #[.string (pbS (jt a b)), .bool (pbOk (jt a b))]) = .returned (.tuple #[.string (jnS a b), .bool (jnB a b)]) := by
  unfold jnS jnB; rw [h, if_pos rfl, Bool.true_and]
theorem e_size (k n : Nat) : (⟨(enc 2 k n).toArray⟩ : ByteArray).size = k := enc_length 2 k n
theorem jt_size (a b : Int) : (jt a b).size = 48 := by
  unfold jt
  rw [ByteArray.size_append, e_size, e_size]
theorem jt_def (a b : Int) : (⟨(enc 2 24 a.toNat).toArray⟩ : ByteArray) ++ ⟨(enc 2 24 b.toNat).toArray⟩ = jt a b := rfl
theorem e24_size (a : Nat) : (⟨(enc 2 24 a).toArray⟩ : ByteArray).size ≤ 24 := Nat.le_of_eq (e_size 24 a)
theorem jt_max (a b : Int) : (jt a b).size ≤ maxLen := by rw [jt_size]; unfold maxLen; omega
theorem p24_bof (a : Int) : bofB a 24 = p24 a := by
  unfold bofB p24
  rw [show ((24 : Int)).toNat = 24 from rfl, show (2 : Nat) ^ 24 = 16777216 by decide +kernel]
  refine decide_eq_decide.2 ⟨fun h => ?_, fun h => ?_⟩ <;> omega
theorem bits24 (a : Int) (w : World) (ha : a ≤ 9223372036854775807) : Calls Tryd.prog 37 #[.int .i64 a, .int .i64 24] w
    fun e w' => e = .returned (.tuple #[.string (if p24 a then ⟨(enc 2 24 a.toNat).toArray⟩ else ⟨#[]⟩), .bool (p24 a)]) ∧ Below w.heap.size w w' := by
  have := bitsOf a 24 w ha
  unfold bofT at this
  rw [p24_bof] at this
  exact this

set_option maxRecDepth 100000 in
theorem implJoin (a b : Int) (w : World) (ha : a ≤ 9223372036854775807) (hb : b ≤ 9223372036854775807) :
    Calls Tryd.prog 15 #[.int .i64 a, .int .i64 b] w fun e w' => e = .returned (.tuple #[.string (jnS a b), .bool (jnB a b)]) ∧ Below w.heap.size w w' := by
  have HA := Lib.hid (fun w => bits24 a w ha)
  have HB := Lib.hid (fun w => bits24 b w hb)
  clear ha hb
  cases h1 : p24 a
  · have HN := Lib.hid (jn_no (a := a) (b := b) (by rw [h1]; rfl))
    rw [h1] at HA
    clear h1
    generalize (if p24 b then (⟨(enc 2 24 b.toNat).toArray⟩ : ByteArray) else ⟨#[]⟩) = u at *
    generalize p24 b = y at *
    go_enter Tryd.func15, Tryd.ntmps15
    go_wp2_with fail
    refine (HA.out _).mono ?_
    rintro e w1 ⟨rfl, hb1⟩
    go_wp2_with fail
    refine (HB.out _).mono ?_
    rintro e w2 ⟨rfl, hb2⟩
    go_wp2_with fail
    go_ret2
    exact ⟨HN.out, hb1.trans (hb2.mono hb1.size)⟩
  · cases h2 : p24 b
    · have HN := Lib.hid (jn_no (a := a) (b := b) (by rw [h1, h2]; rfl))
      rw [h1, if_pos rfl] at HA
      rw [h2] at HB
      clear h1 h2
      generalize (⟨(enc 2 24 a.toNat).toArray⟩ : ByteArray) = u at *
      go_enter Tryd.func15, Tryd.ntmps15
      go_wp2_with fail
      refine (HA.out _).mono ?_
      rintro e w1 ⟨rfl, hb1⟩
      go_wp2_with fail
      refine (HB.out _).mono ?_
      rintro e w2 ⟨rfl, hb2⟩
      go_wp2_with fail
      go_ret2
      exact ⟨HN.out, hb1.trans (hb2.mono hb1.size)⟩
    · have HY := Lib.hid (jn_yes (a := a) (b := b) (by rw [h1, h2]; rfl))
      have HP := Lib.hid (fun w => implParse (jt a b) w (jt_max a b))
      have hj := jt_def a b
      have hs1 := e24_size a.toNat
      have hs2 := e24_size b.toNat
      rw [h1, if_pos rfl] at HA
      rw [h2, if_pos rfl] at HB
      clear h1 h2
      generalize (⟨(enc 2 24 a.toNat).toArray⟩ : ByteArray) = u at *
      generalize (⟨(enc 2 24 b.toNat).toArray⟩ : ByteArray) = v at *
      generalize pbS (jt a b) = s at *
      generalize pbOk (jt a b) = y at *
      generalize jt a b = t at *
      go_enter Tryd.func15, Tryd.ntmps15
      go_wp2_with fail
      refine (HA.out _).mono ?_
      rintro e w1 ⟨rfl, hb1⟩
      go_wp2_with fail
      refine (HB.out _).mono ?_
      rintro e w2 ⟨rfl, hb2⟩
      go_wp2_with fail
      refine (HP.out _).mono ?_
      rintro e w3 ⟨rfl, hb3⟩
      have hb12 := hb1.trans (hb2.mono hb1.size)
      go_wp2_with fail
      go_ret2
      exact ⟨HY.out, hb12.trans (hb3.mono hb12.size)⟩

theorem of24 (a : Int) (w : World) (h0 : 0 ≤ a) (h1 : a ≤ 16777215) : Calls Tryd.prog 57 #[.int .i64 a, .int .i64 24] w fun e w' => e = .returned (.string ⟨(enc 2 24 a.toNat).toArray⟩) ∧ w = w' := by
  have := ofN a.toNat 24 w (by omega) (by omega)
  rw [show ((a.toNat : Nat) : Int) = a by omega] at this
  exact this
set_option maxRecDepth 100000 in
theorem specJoin (a b : Int) (w : World) :
    Calls Tryd.prog 25 #[.int .i64 a, .int .i64 b] w fun e w' => e = .returned (.tuple #[.string (jnS a b), .bool (jnB a b)]) ∧ Below w.heap.size w w' := by
  have HA := Lib.hid (fun w => l1In a 0 16777215 w)
  have HB := Lib.hid (fun w => l1In b 0 16777215 w)
  rw [show isIn a 0 16777215 = p24 a from rfl] at HA
  rw [show isIn b 0 16777215 = p24 b from rfl] at HB
  cases h1 : p24 a
  · have HN := Lib.hid (jn_no (a := a) (b := b) (by rw [h1]; rfl))
    rw [h1] at HA
    clear h1
    go_enter Tryd.func25, Tryd.ntmps25
    go_wp2_with fail
    refine (HA.out _).mono ?_
    rintro e w1 ⟨rfl, rfl⟩
    go_wp2_with fail
    go_ret2
    exact ⟨HN.out, Below.refl _ _⟩
  · cases h2 : p24 b
    · have HN := Lib.hid (jn_no (a := a) (b := b) (by rw [h1, h2]; rfl))
      rw [h1] at HA
      rw [h2] at HB
      clear h1 h2
      go_enter Tryd.func25, Tryd.ntmps25
      go_wp2_with fail
      refine (HA.out _).mono ?_
      rintro e w1 ⟨rfl, rfl⟩
      go_wp2_with fail
      refine (HB.out _).mono ?_
      rintro e w1 ⟨rfl, rfl⟩
      go_wp2_with fail
      go_ret2
      exact ⟨HN.out, Below.refl _ _⟩
    · have HY := Lib.hid (jn_yes (a := a) (b := b) (by rw [h1, h2]; rfl))
      have q1 := of_decide_eq_true h1
      have q2 := of_decide_eq_true h2
      have HOa := Lib.hid (fun w => of24 a w q1.1 q1.2)
      have HOb := Lib.hid (fun w => of24 b w q2.1 q2.2)
      have HP := Lib.hid (fun w => specParse (jt a b) w (jt_max a b))
      have hj := jt_def a b
      have hs1 := e24_size a.toNat
      have hs2 := e24_size b.toNat
      rw [h1] at HA
      rw [h2] at HB
      clear h1 h2 q1 q2
      generalize (⟨(enc 2 24 a.toNat).toArray⟩ : ByteArray) = u at *
      generalize (⟨(enc 2 24 b.toNat).toArray⟩ : ByteArray) = v at *
      generalize pbS (jt a b) = s at *
      generalize pbOk (jt a b) = y at *
      generalize jt a b = t at *
      go_enter Tryd.func25, Tryd.ntmps25
      go_wp2_with fail
      refine (HA.out _).mono ?_
      rintro e w1 ⟨rfl, rfl⟩
      go_wp2_with fail
      refine (HB.out _).mono ?_
      rintro e w1 ⟨rfl, rfl⟩
      go_wp2_with fail
      refine (HOa.out _).mono ?_
      rintro e w1 ⟨rfl, rfl⟩
      go_wp2_with fail
      refine (HOb.out _).mono ?_
      rintro e w1 ⟨rfl, rfl⟩
      go_wp2_with fail
      refine (HP.out _).mono ?_
      rintro e w3 ⟨rfl, hb3⟩
      go_wp2_with fail
      go_ret2
      exact ⟨HY.out, hb3⟩
end Go.Proofs.YtjfhkbpkiblkmaaDoor.namq
