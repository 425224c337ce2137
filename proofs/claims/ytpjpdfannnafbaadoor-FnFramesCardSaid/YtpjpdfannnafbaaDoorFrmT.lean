/- spec's texts of frames: l5Words, l5Text, FrameText. -/
import Derived.Test.YtpjpdfannnafbaaDoorFrmS
import Derived.Test.YtpjpdfannnafbaaDoorAt3
import Derived.Deep.RegionHeld3
import Derived.Deep.CutRange
namespace Go.Proofs.YtpjpdfannnafbaaDoor.frmt
open Go.RowKit Go.Proofs.YtpjpdfannnafbaaDoor.bin Go.Proofs.YtpjpdfannnafbaaDoor.good_ Go.Proofs.YtpjpdfannnafbaaDoor.par Go.Proofs.YtpjpdfannnafbaaDoor.in_ Go.Proofs.YtpjpdfannnafbaaDoor.frm Go.Proofs.YtpjpdfannnafbaaDoor.frms Go.Proofs.YtpjpdfannnafbaaDoor.at3

/-- The words of the kinds; the text of a frame. -/
def wd : Nat → ByteArray
  | 1 => ⟨#[110, 97, 109, 101]⟩
  | 2 => ⟨#[112, 111, 115, 105, 116, 105, 111, 110]⟩
  | 3 => ⟨#[104, 101, 105, 103, 104, 116]⟩
  | 4 => ⟨#[115, 112, 101, 101, 100]⟩
  | _ => ⟨#[]⟩
def wordsC : Array Value := #[.string (wd 0), .string (wd 1), .string (wd 2), .string (wd 3), .string (wd 4)]
theorem words_at {k : Nat} (h : k < 5) : wordsC[k]? = some (.string (wd k)) := by
  match k, h with
  | 0, _ => rfl
  | 1, _ => rfl
  | 2, _ => rfl
  | 3, _ => rfl
  | 4, _ => rfl
theorem wd_size {k : Nat} (h : k < 5) : (wd k).size ≤ 8 := by
  match k, h with
  | 0, _ => decide
  | 1, _ => decide
  | 2, _ => decide
  | 3, _ => decide
  | 4, _ => decide
def hx (n v : Nat) : ByteArray := ⟨(enc 16 n v).toArray⟩
def textT (K A D : Nat) : ByteArray := wd K ++ ⟨#[32]⟩ ++ hx 4 A ++ ⟨#[32]⟩ ++ hx 6 D

theorem wpAnyH_mono {P : Program} {md : Region.Mode} {ops : Array Oper} {Q : Exit → Act → World → Prop} {S S' : World → Prop} (h : ∀ w, S w → S' w) :
    ∀ (fuel : Nat) (listed : Array Bool) (a : Act) (w : World), wpAnyH P md ops Q S fuel listed a w → wpAnyH P md ops Q S' fuel listed a w
  | 0, _, _, _, k => k
  | fuel + 1, _, _, _, k => ⟨k.1, fun i hi => wpOp_mono (fun a' w' h' => ⟨h _ h'.1, wpAnyH_mono h fuel _ a' w' h'.2⟩) (k.2 i hi)⟩
theorem words5 (w : World) : Calls Tryd.prog 66 #[] w fun e w' => e = .returned (.slice (some ⟨w.heap.size, 0, none⟩) 5 5) ∧ w' = w.alloc (.cells wordsC 9) := by
  have hw : wordsC = #[.string ⟨#[]⟩, .string ⟨#[110, 97, 109, 101]⟩, .string ⟨#[112, 111, 115, 105, 116, 105, 111, 110]⟩, .string ⟨#[104, 101, 105, 103, 104, 116]⟩, .string ⟨#[115, 112, 101, 101, 100]⟩] := rfl
  have HW := Lib.hid hw
  clear hw
  go_enter Tryd.func66, Tryd.ntmps66
  go_wp2_with fail
  go_ret
  exact ⟨rfl, by rw [HW.out]⟩
theorem words_cell (w : World) {k : Nat} (h : k < 5) : (w.alloc (.cells wordsC 9)).cell? ⟨w.heap.size, k, none⟩ = some (.string (wd k)) := by
  rw [cell_of_row _ _ k wordsC 9 (0, 0) (heap_alloc_new w _)]
  exact words_at h

theorem hex_bits (k n v : Nat) (hn : k = 4 * n) (hv : v < 2 ^ k) : (⟨(enc 16 ((⟨(enc 2 k v).toArray⟩ : ByteArray).size / 4) (dec 2 (⟨(enc 2 k v).toArray⟩ : ByteArray).data.toList)).toArray⟩ : ByteArray) = hx n v := by
  rw [e_size, e_dec k v hv, hn, Nat.mul_div_cancel_left _ (by omega)]
  rfl

set_option maxRecDepth 100000 in
set_option maxHeartbeats 32000000 in
theorem text5 (K A D : Nat) (w : World) (hk : K < 5) (ha : A ≤ 65535) (hd : D ≤ 16777215) :
    Calls Tryd.prog 38 #[.agg #[.int .i64 K, .int .i64 A, .int .i64 D]] w fun e w' => e = .returned (.string (textT K A D)) ∧ Below w.heap.size w w' := by
  have flip3 : ∀ {f : FuncId} {args : Array Value} {v : Value} {w : World}, Calls Tryd.prog f args w (fun e w' => e = .returned v ∧ w = w') → Calls Tryd.prog f args w (fun e w' => e = .returned v ∧ w' = w) := fun h => h.mono fun _ _ h => ⟨h.1, h.2.symm⟩
  have H1 := Lib.hid (fun w => flip3 (ofN A 16 w (by omega) (by omega)))
  have H2 := Lib.hid (fun w => flip3 (ofN D 24 w (by omega) (by omega)))
  have h3 := fun w => flip3 (hexs.l2Hex ⟨(enc 2 16 A).toArray⟩ w (by rw [e_size]; omega) (by rw [e_size]) (e_ok 16 A))
  have h4 := fun w => flip3 (hexs.l2Hex ⟨(enc 2 24 D).toArray⟩ w (by rw [e_size]; omega) (by rw [e_size]) (e_ok 24 D))
  rw [hex_bits 16 4 A rfl (by rw [show (2 : Nat) ^ 16 = 65536 from rfl]; omega)] at h3
  rw [hex_bits 24 6 D rfl (by rw [show (2 : Nat) ^ 24 = 16777216 from rfl]; omega)] at h4
  have H3 := Lib.hid h3
  have H4 := Lib.hid h4
  have H1' := Lib.hid (show ∀ w, Calls Tryd.prog 62 #[.int .i64 (A : Int), .int .i64 16] w fun e w' => e = .returned (.string ⟨(enc 2 16 A).toArray⟩) ∧ w' = w from H1.out)
  have H2' := Lib.hid (show ∀ w, Calls Tryd.prog 62 #[.int .i64 (D : Int), .int .i64 24] w fun e w' => e = .returned (.string ⟨(enc 2 24 D).toArray⟩) ∧ w' = w from H2.out)
  have z1 : ((hx 4 A).size : Int) ≤ 8 := by unfold hx; rw [e_size]; omega
  have z2 : ((hx 6 D).size : Int) ≤ 8 := by unfold hx; rw [e_size]; omega
  have z3 : ((wd K).size : Int) ≤ 8 := by have := wd_size hk; omega
  have hki : (K : Int) < 5 := by omega
  have y5 : ¬ 9223372036854775807 < (wd K).size + 1 := by omega
  have y10 : ¬ 9223372036854775807 < (wd K).size + 1 + (hx 4 A).size := by omega
  have y11 : ¬ 9223372036854775807 < (wd K).size + 1 + (hx 4 A).size + 1 := by omega
  have y16 : ¬ 9223372036854775807 < (wd K).size + 1 + (hx 4 A).size + 1 + (hx 6 D).size := by omega
  have hwk := words_at hk
  have hW := fun W : World => words_cell W hk
  unfold textT
  have HW := Lib.hid hW
  clear flip3 h3 h4 H1 H2 ha hd hW
  generalize (⟨(enc 2 16 A).toArray⟩ : ByteArray) = T1 at *
  generalize (⟨(enc 2 24 D).toArray⟩ : ByteArray) = T2 at *
  generalize hx 4 A = X1 at *
  generalize hx 6 D = X2 at *
  generalize wd K = wk at *
  go_enter Tryd.func38, Tryd.ntmps38
  go_upto_region 1 with fail
  have HN := Lib.hid (new3 w K A D)
  generalize w.alloc (.cells #[.int .i64 K, .int .i64 A, .int .i64 D] 25) = W at *
  obtain ⟨a0, a1, a2⟩ := HN.out.cells
  have hlt := HN.out.2.2.1
  have hcw := HW.out W
  obtain ⟨e0, e1, e2⟩ := (HN.out.old ((Below.refl W.heap.size W).alloc (Nat.le_refl _) (.cells wordsC 9))).cells
  have hbl := Lib.hid (HN.out.1.trans (((Below.refl W.heap.size W).alloc (Nat.le_refl _) (.cells wordsC 9)).mono HN.out.1.size))
  clear HN HW
  go_cut [2] from 3 to 19 (fun v wx => v = .string (wk ++ ⟨#[32]⟩ ++ X1 ++ ⟨#[32]⟩ ++ X2) ∧ Below w.heap.size w wx)
  case first =>
    refine wp_region_held_drew (S := fun w' => w'.cell? ⟨w.heap.size, 0, none⟩ = some (.int .i64 K) ∧ w'.cell? ⟨w.heap.size, 1, none⟩ = some (.int .i64 A) ∧ w'.cell? ⟨w.heap.size, 2, none⟩ = some (.int .i64 D) ∧ True) (by kernel_rfl) ⟨a0, a1, a2, trivial⟩ (fun hHeld => ?_)
    refine wpAnyH_take (i := 1) (v := ?vq1) rfl (by kernel_rfl) (by kernel_rfl) (by kernel_rfl) (fun _ _ _ h => h) (Or.inl ⟨by rfl, ?hq1⟩) (by assumption) ?rq1
    case hq1 =>
      intro w hSw
      obtain ⟨h0, h1, h2, h3⟩ := hSw
      go_simp
      try with_reducible rfl
    try simp only [Act.put]
    refine wpAnyH_take (i := 2) (v := ?vq2) rfl (by kernel_rfl) (by kernel_rfl) (by kernel_rfl) (fun _ _ _ h => h) (Or.inl ⟨by rfl, ?hq2⟩) (by assumption) ?rq2
    case hq2 =>
      intro w hSw
      obtain ⟨h0, h1, h2, h3⟩ := hSw
      go_simp
      try with_reducible rfl
    try simp only [Act.put]
    refine wpAnyH_take (i := 6) (v := ?vq6) rfl (by kernel_rfl) (by kernel_rfl) (by kernel_rfl) (fun _ _ _ h => h) (Or.inl ⟨by rfl, ?hq6⟩) (by assumption) ?rq6
    case hq6 =>
      intro w hSw
      obtain ⟨h0, h1, h2, h3⟩ := hSw
      go_simp
      try with_reducible rfl
    try simp only [Act.put]
    refine wpAnyH_take (i := 7) (v := ?vq7) rfl (by kernel_rfl) (by kernel_rfl) (by kernel_rfl) (fun _ _ _ h => h) (Or.inl ⟨by rfl, ?hq7⟩) (by assumption) ?rq7
    case hq7 =>
      intro w hSw
      obtain ⟨h0, h1, h2, h3⟩ := hSw
      go_simp
      try with_reducible rfl
    try simp only [Act.put]
    refine wpAnyH_take (i := 12) (v := ?vq12) rfl (by kernel_rfl) (by kernel_rfl) (by kernel_rfl) (fun _ _ _ h => h) (Or.inl ⟨by rfl, ?hq12⟩) (by assumption) ?rq12
    case hq12 =>
      intro w hSw
      obtain ⟨h0, h1, h2, h3⟩ := hSw
      go_simp
      try with_reducible rfl
    try simp only [Act.put]
    refine wpAnyH_take (i := 13) (v := ?vq13) rfl (by kernel_rfl) (by kernel_rfl) (by kernel_rfl) (fun _ _ _ h => h) (Or.inl ⟨by rfl, ?hq13⟩) (by assumption) ?rq13
    case hq13 =>
      intro w hSw
      obtain ⟨h0, h1, h2, h3⟩ := hSw
      go_simp
      try with_reducible rfl
    try simp only [Act.put]
    refine wpAnyH_ready (rs := [0]) (by kernel_rfl) (by simp) ?_
    refine AllReadyH.cons (i := 0) rfl (fun K hK => ?_) AllReadyH.nil
    go_simp
    with_reducible refine (words5 _).mono ?_
    rintro e w' ⟨rfl, rfl⟩
    try go_wp2_with fail
    refine hK.out _ _ ?_ (fun hHeld => ?_)
    · exact ⟨e0, e1, e2, trivial⟩
    clear hK K
    try simp only [Act.put]
    refine wpAnyH_mono (S := fun w' => w'.cell? ⟨w.heap.size, 0, none⟩ = some (.int .i64 K) ∧ w'.cell? ⟨w.heap.size, 1, none⟩ = some (.int .i64 A) ∧ w'.cell? ⟨w.heap.size, 2, none⟩ = some (.int .i64 D) ∧ w'.cell? ⟨W.heap.size, K, none⟩ = some (.string wk)) (fun _ h => ⟨h.1, h.2.1, h.2.2.1, trivial⟩) _ _ _ _ ?_
    clear hHeld
    have hHeld : (fun w' => w'.cell? ⟨w.heap.size, 0, none⟩ = some (.int .i64 K) ∧ w'.cell? ⟨w.heap.size, 1, none⟩ = some (.int .i64 A) ∧ w'.cell? ⟨w.heap.size, 2, none⟩ = some (.int .i64 D) ∧ w'.cell? ⟨W.heap.size, K, none⟩ = some (.string wk)) (W.alloc (.cells wordsC 9)).drew := ⟨e0, e1, e2, hcw⟩
    refine wpAnyH_take (i := 3) (v := ?vq3) rfl (by kernel_rfl) (by kernel_rfl) (by kernel_rfl) (fun _ _ _ h => h) (Or.inl ⟨by rfl, ?hq3⟩) (by assumption) ?rq3
    case hq3 =>
      intro w hSw
      obtain ⟨h0, h1, h2, h3⟩ := hSw
      go_simp
      try with_reducible rfl
    try simp only [Act.put]
    refine wpAnyH_take (i := 4) (v := ?vq4) rfl (by kernel_rfl) (by kernel_rfl) (by kernel_rfl) (fun _ _ _ h => h) (Or.inl ⟨by rfl, ?hq4⟩) (by assumption) ?rq4
    case hq4 =>
      intro w hSw
      obtain ⟨h0, h1, h2, h3⟩ := hSw
      go_simp
      try with_reducible rfl
    try simp only [Act.put]
    refine wpAnyH_take (i := 5) (v := ?vq5) rfl (by kernel_rfl) (by kernel_rfl) (by kernel_rfl) (fun _ _ _ h => h) (Or.inl ⟨by rfl, ?hq5⟩) (by assumption) ?rq5
    case hq5 =>
      intro w hSw
      obtain ⟨h0, h1, h2, h3⟩ := hSw
      go_simp
      try with_reducible rfl
    try simp only [Act.put]
    refine wpAnyH_ready (rs := [8]) (by kernel_rfl) (by simp) ?_
    refine AllReadyH.cons (i := 8) rfl (fun K hK => ?_) AllReadyH.nil
    go_simp
    with_reducible refine (H1'.out _).mono ?_
    rintro e w' ⟨rfl, rfl⟩
    try go_wp2_with fail
    refine hK.out _ _ ?_ (fun hHeld => ?_)
    · exact hHeld
    clear hK K
    try simp only [Act.put]
    refine wpAnyH_ready (rs := [9]) (by kernel_rfl) (by simp) ?_
    refine AllReadyH.cons (i := 9) rfl (fun K hK => ?_) AllReadyH.nil
    go_simp
    with_reducible refine (H3.out _).mono ?_
    rintro e w' ⟨rfl, rfl⟩
    try go_wp2_with fail
    refine hK.out _ _ ?_ (fun hHeld => ?_)
    · exact hHeld
    clear hK K
    try simp only [Act.put]
    refine wpAnyH_take (i := 10) (v := ?vq10) rfl (by kernel_rfl) (by kernel_rfl) (by kernel_rfl) (fun _ _ _ h => h) (Or.inl ⟨by rfl, ?hq10⟩) (by assumption) ?rq10
    case hq10 =>
      intro w hSw
      obtain ⟨h0, h1, h2, h3⟩ := hSw
      go_simp
      try with_reducible rfl
    try simp only [Act.put]
    refine wpAnyH_take (i := 11) (v := ?vq11) rfl (by kernel_rfl) (by kernel_rfl) (by kernel_rfl) (fun _ _ _ h => h) (Or.inl ⟨by rfl, ?hq11⟩) (by assumption) ?rq11
    case hq11 =>
      intro w hSw
      obtain ⟨h0, h1, h2, h3⟩ := hSw
      go_simp
      try with_reducible rfl
    try simp only [Act.put]
    refine wpAnyH_ready (rs := [14]) (by kernel_rfl) (by simp) ?_
    refine AllReadyH.cons (i := 14) rfl (fun K hK => ?_) AllReadyH.nil
    go_simp
    with_reducible refine (H2'.out _).mono ?_
    rintro e w' ⟨rfl, rfl⟩
    try go_wp2_with fail
    refine hK.out _ _ ?_ (fun hHeld => ?_)
    · exact hHeld
    clear hK K
    try simp only [Act.put]
    refine wpAnyH_ready (rs := [15]) (by kernel_rfl) (by simp) ?_
    refine AllReadyH.cons (i := 15) rfl (fun K hK => ?_) AllReadyH.nil
    go_simp
    with_reducible refine (H4.out _).mono ?_
    rintro e w' ⟨rfl, rfl⟩
    try go_wp2_with fail
    refine hK.out _ _ ?_ (fun hHeld => ?_)
    · exact hHeld
    clear hK K
    try simp only [Act.put]
    refine wpAnyH_take (i := 16) (v := ?vq16) rfl (by kernel_rfl) (by kernel_rfl) (by kernel_rfl) (fun _ _ _ h => h) (Or.inl ⟨by rfl, ?hq16⟩) (by assumption) ?rq16
    case hq16 =>
      intro w hSw
      obtain ⟨h0, h1, h2, h3⟩ := hSw
      go_simp
      try with_reducible rfl
    try simp only [Act.put]
    refine wpAnyH_take (i := 17) (v := ?vq17) rfl (by kernel_rfl) (by kernel_rfl) (by kernel_rfl) (fun _ _ _ h => h) (Or.inl ⟨by rfl, ?hq17⟩) (by assumption) ?rq17
    case hq17 =>
      intro w hSw
      obtain ⟨h0, h1, h2, h3⟩ := hSw
      go_simp
      try with_reducible rfl
    try simp only [Act.put]
    refine wpAnyH_done (by kernel_rfl) ?_ _
    simp only [List.getElem_toArray, List.getElem_cons_succ, List.getElem_cons_zero, List.setIfInBounds_toArray, List.set_cons_succ, List.set_cons_zero]
    all_goals (go_wp2_with fail; go_meet; exact ⟨rfl, hbl.out.drew⟩)
  case rest =>
    obtain ⟨rfl, hb⟩ := hcut
    go_wp2_with fail
    go_ret
    exact ⟨rfl, hb⟩
end Go.Proofs.YtpjpdfannnafbaaDoor.frmt
