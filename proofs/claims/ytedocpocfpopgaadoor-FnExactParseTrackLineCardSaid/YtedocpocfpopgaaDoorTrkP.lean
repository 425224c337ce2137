/- The texts of tracks; impl's TrackLine, where its table holds the words and strconv's table is as the text lays it. -/
import Derived.Test.YtedocpocfpopgaaDoorTrkV
import Derived.Test.YtedocpocfpopgaaDoorFmtAll
import Derived.Test.YtedocpocfpopgaaDoorLaid
import Derived.Test.YtedocpocfpopgaaDoorRows
namespace Go.Proofs.YtedocpocfpopgaaDoor.trkp
open Go.RowKit Go.Proofs.YtedocpocfpopgaaDoor.num Go.Proofs.YtedocpocfpopgaaDoor.ints Go.Proofs.YtedocpocfpopgaaDoor.lst Go.Proofs.YtedocpocfpopgaaDoor.in_ Go.Proofs.YtedocpocfpopgaaDoor.ats Go.Proofs.YtedocpocfpopgaaDoor.pos Go.Proofs.YtedocpocfpopgaaDoor.trk Go.Proofs.YtedocpocfpopgaaDoor.trkm
set_option linter.unusedSimpArgs false

/-- The word of a State. -/
def wd : Nat → ByteArray
  | 1 => ⟨#[110, 101, 119]⟩
  | 2 => ⟨#[99, 111, 110, 102, 105, 114, 109, 101, 100]⟩
  | 3 => ⟨#[99, 111, 97, 115, 116, 105, 110, 103]⟩
  | _ => ⟨#[]⟩
def hdT (i : Int) (k : Nat) (x y h : Int) : ByteArray := txt i ++ ⟨#[32]⟩ ++ wd k ++ ⟨#[32, 97, 116, 32]⟩ ++ txt x ++ ⟨#[44]⟩ ++ txt y ++ ⟨#[32, 104, 105, 116, 115, 32]⟩ ++ txt h
def tlT (i s x y h l : Int) : ByteArray := if l = 0 then hdT i s.toNat x y h else hdT i s.toNat x y h ++ ⟨#[32, 108, 111, 115, 116, 32]⟩ ++ txt l
/-- What TrackLine returns. -/
def tlV (i s x y h l : Int) : ByteArray := if tkB i s x y h l then tlT i s x y h l else ⟨#[]⟩
theorem tl_no {i s x y h l : Int} (hh : tkB i s x y h l = false) : Ending.returned (.tuple #[.string ⟨#[]⟩, .bool false]) = .returned (.tuple #[.string (tlV i s x y h l), .bool (tkB i s x y h l)]) := by unfold tlV; rw [hh]; rfl
theorem tl_yes {i s x y h l : Int} (hh : tkB i s x y h l = true) : Ending.returned (.tuple #[.string (tlT i s x y h l), .bool true]) = .returned (.tuple #[.string (tlV i s x y h l), .bool (tkB i s x y h l)]) := by unfold tlV; rw [hh]; rfl
theorem wd_size (k : Nat) : (wd k).size ≤ 9 := by
  unfold wd
  split <;> decide
theorem sw_is {i s x y h l : Int} (hh : tkB i s x y h l = true) : ∃ k : Nat, s = (k : Int) ∧ 1 ≤ k ∧ k ≤ 3 := by
  obtain ⟨-, -, -, -, h0, hs⟩ := tkB_yes hh
  refine ⟨s.toNat, ?_⟩
  have : s = 0 ∨ s = 1 ∨ s = 2 ∨ s = 3 := by
    rw [hs]
    unfold sw
    repeat' split
    all_goals simp
  omega
/-- impl's table holds the words. -/
def Tab (W : World) : Prop := ∀ k, k < 4 → W.cell? ⟨0, k, none⟩ = some (.string (wd k))
theorem Tab.old {W W' : World} (h : Tab W) (hb : Below W.heap.size W W') : Tab W' := fun k hk => (hb.cell (p := ⟨0, k, none⟩) (World.block_lt_of_cell? _ _ (h k hk))).trans (h k hk)
theorem Tab.on {W W' : World} (h : Tab W) (hb : Below W.heap.size W W') {k : Nat} (hk : k < 4) : W'.cell? ⟨0, k, none⟩ = some (.string (wd k)) := (h.old hb) k hk

theorem gW : Tryd.prog.globalNamed "loop.example/g00875/impl.stateWords" = some 0 := by kernel_rfl
theorem gWT : (Tryd.prog.globals[0]?).map (·.type) = some 132 := by kernel_rfl
theorem cellsW : Tryd.prog.cellsOf 132 = 4 := by kernel_rfl
theorem cellsS : Tryd.prog.cellsOf 9 = 1 := by kernel_rfl
def words : List ByteArray := [wd 0, wd 1, wd 2, wd 3]
theorem word_at : ∀ k : Nat, k < 4 → words[k]? = some (wd k)
  | 0, _ => rfl
  | 1, _ => rfl
  | 2, _ => rfl
  | 3, _ => rfl
set_option maxRecDepth 100000 in
set_option maxHeartbeats 4000000 in
theorem trackLineI (i s x y h l : Int) (w : World) (ht : fmt.Tab w) (hw : Tab w) :
    Calls Tryd.prog 52 #[.agg #[.int .i64 i, .int .i64 s, .int .i64 x, .int .i64 y, .int .i64 h, .int .i64 l]] w fun e w' => e = .returned (.tuple #[.string (tlV i s x y h l), .bool (tkB i s x y h l)]) ∧ Below w.heap.size w w' := by
  have hg := fun W => trkv.isValidTrack i s x y h l W
  cases hv : tkB i s x y h l
  · have E0 := Lib.hid (newS 38 #[.int .i64 i, .int .i64 s, .int .i64 x, .int .i64 y, .int .i64 h, .int .i64 l] w)
    have HN := Lib.hid (tl_no hv)
    rw [hv] at hg HN
    have HG := Lib.hid hg
    clear hg hv ht hw
    go_enter Tryd.func52, Tryd.ntmps52
    go_wp2_with fail
    generalize w.alloc (.cells #[.int .i64 i, .int .i64 s, .int .i64 x, .int .i64 y, .int .i64 h, .int .i64 l] 38) = W at *
    refine (HG.out _).mono ?_
    rintro e w1 ⟨rfl, hb1⟩
    have B1 := Lib.hid (E0.out.old hb1)
    clear hb1
    go_wp2_with fail
    go_ret2
    exact ⟨HN.out, B1.out.1⟩
  · have HNE := Lib.hid (tl_yes hv)
    obtain ⟨k, rfl, k1, k3⟩ := sw_is hv
    obtain ⟨hi, hp, hh, hl, -, -⟩ := tkB_yes hv
    obtain ⟨hx, hy⟩ := pB_yes hp
    have H1 := Lib.hid (fun (W : World) (hb : Below w.heap.size w W) => fmt.format_yes i W (by omega) (by omega) (fmt.tab_on ht hb))
    have H2 := Lib.hid (fun (W : World) (hb : Below w.heap.size w W) => fmt.format_yes x W (by omega) (by omega) (fmt.tab_on ht hb))
    have H3 := Lib.hid (fun (W : World) (hb : Below w.heap.size w W) => fmt.format_yes y W (by omega) (by omega) (fmt.tab_on ht hb))
    have H4 := Lib.hid (fun (W : World) (hb : Below w.heap.size w W) => fmt.format_yes h W (by omega) (by omega) (fmt.tab_on ht hb))
    have H5 := Lib.hid (fun (W : World) (hb : Below w.heap.size w W) => fmt.format_yes l W (by omega) (by omega) (fmt.tab_on ht hb))
    have z1 := txt_size i (by omega) (by omega)
    have z2 := txt_size x (by omega) (by omega)
    have z3 := txt_size y (by omega) (by omega)
    have z4 := txt_size h (by omega) (by omega)
    have z5 := txt_size l (by omega) (by omega)
    have z6 := wd_size k
    have HW := Lib.hid (fun (W : World) (hb : Below w.heap.size w W) => hw.on hb (show k < 4 by omega))
    have kk0 : (0 : Int) ≤ (k : Int) := by omega
    have kk : (k : Int) < 4 := by omega
    have HD := Lib.hid (show txt i ++ ⟨#[32]⟩ ++ wd k ++ ⟨#[32, 97, 116, 32]⟩ ++ txt x ++ ⟨#[44]⟩ ++ txt y ++ ⟨#[32, 104, 105, 116, 115, 32]⟩ ++ txt h = hdT i k x y h from rfl)
    have HT0 := Lib.hid (fun (hz : l = 0) => show hdT i k x y h = tlT i (k : Int) x y h l by unfold tlT; rw [if_pos hz]; rfl)
    have HT1 := Lib.hid (fun (hz : ¬ l = 0) => show hdT i k x y h ++ ⟨#[32, 108, 111, 115, 116, 32]⟩ ++ txt l = tlT i (k : Int) x y h l by unfold tlT; rw [if_neg hz]; rfl)
    have HZ := Lib.hid (show (hdT i k x y h).size ≤ 120 by
      rw [← HD.out]
      simp only [ByteArray.size_append]
      have e1 : (⟨#[32]⟩ : ByteArray).size = 1 := rfl
      have e2 : (⟨#[32, 97, 116, 32]⟩ : ByteArray).size = 4 := rfl
      have e3 : (⟨#[44]⟩ : ByteArray).size = 1 := rfl
      have e4 : (⟨#[32, 104, 105, 116, 115, 32]⟩ : ByteArray).size = 6 := rfl
      omega)
    have E0 := Lib.hid (newS 38 #[.int .i64 i, .int .i64 (k : Int), .int .i64 x, .int .i64 y, .int .i64 h, .int .i64 l] w)
    rw [hv] at hg HNE
    have HG := Lib.hid hg
    clear hg hv hi hp hh hl hx hy ht hw k1 k3
    generalize txt i = t1 at *
    generalize txt x = t2 at *
    generalize txt y = t3 at *
    generalize txt h = t4 at *
    generalize txt l = t5 at *
    generalize wd k = wk at *
    generalize hdT i k x y h = hd at *
    generalize tlT i (k : Int) x y h l = R at *
    go_enter Tryd.func52, Tryd.ntmps52
    go_wp2_with fail
    generalize w.alloc (.cells #[.int .i64 i, .int .i64 (k : Int), .int .i64 x, .int .i64 y, .int .i64 h, .int .i64 l] 38) = W at *
    refine (HG.out _).mono ?_
    rintro e W1 ⟨rfl, hb⟩
    have B1 := Lib.hid (E0.out.old hb)
    clear hb
    have c0 : World.cell? W1 ⟨w.heap.size, 0, none⟩ = some (.int .i64 i) := B1.out.cell 0
    have c1 : World.cell? W1 ⟨w.heap.size, 1, none⟩ = some (.int .i64 (k : Int)) := B1.out.cell 1
    have c2 : World.cell? W1 ⟨w.heap.size, 2, none⟩ = some (.int .i64 x) := B1.out.cell 2
    have c3 : World.cell? W1 ⟨w.heap.size, 3, none⟩ = some (.int .i64 y) := B1.out.cell 3
    have c4 : World.cell? W1 ⟨w.heap.size, 4, none⟩ = some (.int .i64 h) := B1.out.cell 4
    have c5 : World.cell? W1 ⟨w.heap.size, 5, none⟩ = some (.int .i64 l) := B1.out.cell 5
    go_wp2_with fail
    refine (H1.out _ B1.out.1).mono ?_
    rintro e W2 ⟨rfl, hb⟩
    have B2 := Lib.hid (B1.out.old hb)
    clear c0 c1 c2 c3 c4 c5
    clear hb
    have c0 : World.cell? W2 ⟨w.heap.size, 0, none⟩ = some (.int .i64 i) := B2.out.cell 0
    have c1 : World.cell? W2 ⟨w.heap.size, 1, none⟩ = some (.int .i64 (k : Int)) := B2.out.cell 1
    have c2 : World.cell? W2 ⟨w.heap.size, 2, none⟩ = some (.int .i64 x) := B2.out.cell 2
    have c3 : World.cell? W2 ⟨w.heap.size, 3, none⟩ = some (.int .i64 y) := B2.out.cell 3
    have c4 : World.cell? W2 ⟨w.heap.size, 4, none⟩ = some (.int .i64 h) := B2.out.cell 4
    have c5 : World.cell? W2 ⟨w.heap.size, 5, none⟩ = some (.int .i64 l) := B2.out.cell 5
    go_wp2_with fail
    refine (H2.out _ B2.out.1).mono ?_
    rintro e W3 ⟨rfl, hb⟩
    have B3 := Lib.hid (B2.out.old hb)
    clear c0 c1 c2 c3 c4 c5
    clear hb
    have c0 : World.cell? W3 ⟨w.heap.size, 0, none⟩ = some (.int .i64 i) := B3.out.cell 0
    have c1 : World.cell? W3 ⟨w.heap.size, 1, none⟩ = some (.int .i64 (k : Int)) := B3.out.cell 1
    have c2 : World.cell? W3 ⟨w.heap.size, 2, none⟩ = some (.int .i64 x) := B3.out.cell 2
    have c3 : World.cell? W3 ⟨w.heap.size, 3, none⟩ = some (.int .i64 y) := B3.out.cell 3
    have c4 : World.cell? W3 ⟨w.heap.size, 4, none⟩ = some (.int .i64 h) := B3.out.cell 4
    have c5 : World.cell? W3 ⟨w.heap.size, 5, none⟩ = some (.int .i64 l) := B3.out.cell 5
    go_wp2_with fail
    refine (H3.out _ B3.out.1).mono ?_
    rintro e W4 ⟨rfl, hb⟩
    have B4 := Lib.hid (B3.out.old hb)
    clear c0 c1 c2 c3 c4 c5
    clear hb
    have c0 : World.cell? W4 ⟨w.heap.size, 0, none⟩ = some (.int .i64 i) := B4.out.cell 0
    have c1 : World.cell? W4 ⟨w.heap.size, 1, none⟩ = some (.int .i64 (k : Int)) := B4.out.cell 1
    have c2 : World.cell? W4 ⟨w.heap.size, 2, none⟩ = some (.int .i64 x) := B4.out.cell 2
    have c3 : World.cell? W4 ⟨w.heap.size, 3, none⟩ = some (.int .i64 y) := B4.out.cell 3
    have c4 : World.cell? W4 ⟨w.heap.size, 4, none⟩ = some (.int .i64 h) := B4.out.cell 4
    have c5 : World.cell? W4 ⟨w.heap.size, 5, none⟩ = some (.int .i64 l) := B4.out.cell 5
    go_wp2_with fail
    refine (H4.out _ B4.out.1).mono ?_
    rintro e W5 ⟨rfl, hb⟩
    have B5 := Lib.hid (B4.out.old hb)
    clear c0 c1 c2 c3 c4 c5
    clear hb
    have c0 : World.cell? W5 ⟨w.heap.size, 0, none⟩ = some (.int .i64 i) := B5.out.cell 0
    have c1 : World.cell? W5 ⟨w.heap.size, 1, none⟩ = some (.int .i64 (k : Int)) := B5.out.cell 1
    have c2 : World.cell? W5 ⟨w.heap.size, 2, none⟩ = some (.int .i64 x) := B5.out.cell 2
    have c3 : World.cell? W5 ⟨w.heap.size, 3, none⟩ = some (.int .i64 y) := B5.out.cell 3
    have c4 : World.cell? W5 ⟨w.heap.size, 4, none⟩ = some (.int .i64 h) := B5.out.cell 4
    have c5 : World.cell? W5 ⟨w.heap.size, 5, none⟩ = some (.int .i64 l) := B5.out.cell 5
    have cw := HW.out _ B5.out.1
    by_cases hz : l = 0
    · have HR := Lib.hid (HT0.out hz)
      subst hz
      clear HT0 HT1
      go_wp2_with fail
      go_ret2
      exact ⟨by rw [← HNE.out, ← HR.out, ← HD.out]; rfl, B5.out.1⟩
    · have HR := Lib.hid (HT1.out hz)
      have dz : decide (l = 0) = false := decide_eq_false hz
      have dz2 : (l == 0) = false := by simpa using hz
      have zh := HZ.out
      clear HT0 HT1 HZ
      go_upto_region 8 with fail
      rw [HD.out]
      clear HD cw
      generalize hd = hd1 at *
      go_wp2_with fail
      refine (H5.out _ B5.out.1).mono ?_
      rintro e W6 ⟨rfl, hb⟩
      have B6 := Lib.hid (B5.out.old hb)
      clear hb
      go_wp2_with fail
      go_ret2
      exact ⟨by rw [← HNE.out, ← HR.out]; rfl, B6.out.1⟩
end Go.Proofs.YtedocpocfpopgaaDoor.trkp
