/- spec.l5Decode: the frame of 56 bits. -/
import Derived.Test.YtdjcbfeilkepmaaFrmS
import Derived.Test.YtdjcbfeilkepmaaAt3
import Derived.Deep.RegionHeld3
import Derived.Deep.CutRange
namespace Go.Proofs.Ytdjcbfeilkepmaa.frmd
open Go.RowKit Go.Proofs.Ytdjcbfeilkepmaa.bin Go.Proofs.Ytdjcbfeilkepmaa.good_ Go.Proofs.Ytdjcbfeilkepmaa.par Go.Proofs.Ytdjcbfeilkepmaa.in_ Go.Proofs.Ytdjcbfeilkepmaa.frm Go.Proofs.Ytdjcbfeilkepmaa.frms Go.Proofs.Ytdjcbfeilkepmaa.at3

set_option maxRecDepth 100000 in
set_option maxHeartbeats 8000000 in
theorem decode5 (b : ByteArray) (w : World) (hs : b.size = 56) (ho : ok 2 b.data.toList = true) :
    Calls Try.prog 166 #[.string b] w fun e w' => e = .returned (.tuple #[if dG b then fv (dK b) (dA b) (dD b) else fv 0 0 0, .bool (dG b)]) ∧ Below w.heap.size w w' := by
  have flip3 : ∀ {f : FuncId} {args : Array Value} {v : Value} {w : World}, Calls Try.prog f args w (fun e w' => e = .returned v ∧ w = w') → Calls Try.prog f args w (fun e w' => e = .returned v ∧ w' = w) := fun h => h.mono fun _ _ h => ⟨h.1, h.2.symm⟩
  have H1 := Lib.hid (fun w => flip3 (number (b.extract 0 4) w (by rw [bitsi.sub_size _ _ _ (by omega)]; omega) (bitsi.sub_ok ho _ _)))
  have H2 := Lib.hid (fun w => flip3 (number (b.extract 4 20) w (by rw [bitsi.sub_size _ _ _ (by omega)]; omega) (bitsi.sub_ok ho _ _)))
  have H3 := Lib.hid (fun w => flip3 (number (b.extract 20 44) w (by rw [bitsi.sub_size _ _ _ (by omega)]; omega) (bitsi.sub_ok ho _ _)))
  clear flip3
  have hs1 : (4 : Int) ≤ (b.size : Int) := by omega
  have hs2 : (20 : Int) ≤ (b.size : Int) := by omega
  have hs3 : (44 : Int) ≤ (b.size : Int) := by omega
  unfold dG dK dA dD
  clear hs ho
  generalize dec 2 (b.extract 0 4).data.toList = k at *
  generalize dec 2 (b.extract 4 20).data.toList = a at *
  generalize dec 2 (b.extract 20 44).data.toList = d at *
  have hg := fun w => good5 k a d w
  have HG := Lib.hid hg
  clear hg
  generalize hbb : good k a d = bb at *
  clear hbb
  go_enter Try.func166, Try.ntmps166
  go_upto_region 1 with fail
  have HW := Lib.hid (new3 w 0 0 0)
  generalize w.alloc (.cells #[.int .i64 0, .int .i64 0, .int .i64 0] 155) = W at *
  go_cut [4] from 5 to 14 (fun p wx => p = .pointer (some ⟨W.heap.size, 0, none⟩) ∧ At3 w wx W.heap.size k a d ∧ At3 w wx w.heap.size 0 0 0)
  case first =>
    go_region_held3 (fun _ => True) (trivial) (first
      | (go_at_call 193; (with_reducible refine (H1.out _).mono ?_); rintro e w' ⟨rfl, rfl⟩)
      | (go_at_call 193; (with_reducible refine (H2.out _).mono ?_); rintro e w' ⟨rfl, rfl⟩)
      | (go_at_call 193; (with_reducible refine (H3.out _).mono ?_); rintro e w' ⟨rfl, rfl⟩))
    all_goals (go_wp2_with fail; go_meet; exact ⟨rfl, HW.out.two k a d⟩)
  case rest =>
    obtain ⟨rfl, hA, hB⟩ := hcut
    obtain ⟨a0, a1, a2⟩ := hA.cells
    have HA := Lib.hid hA
    have HB := Lib.hid hB
    clear hA hB
    go_wp2_with fail
    refine (HG.out _).mono ?_
    rintro e w2 ⟨rfl, hb2⟩
    clear a0 a1 a2
    obtain ⟨a0, a1, a2⟩ := (HA.out.old hb2).cells
    obtain ⟨b0, b1, b2⟩ := (HB.out.old hb2).cells
    obtain ⟨c0, c1, c2⟩ := (HB.out.old hb2).frozen
    have HB2 := Lib.hid (HB.out.old hb2)
    cases bb
    · go_wp2_with fail
      have HE := HB2.out.set 0 0 0
      have hl := HE.load
      refine bodyPost_ret (v := .tuple #[fv 0 0 0, .bool false]) ?_ rfl ⟨rfl, HE.1⟩
      rw [results_cell_tmp rfl]
      simp [asAddr, Result.andThen, hl, fv]
    · go_wp2_with fail
      have HE := HB2.out.set k a d
      have hl := HE.load
      refine bodyPost_ret (v := .tuple #[fv k a d, .bool true]) ?_ rfl ⟨rfl, HE.1⟩
      rw [results_cell_tmp rfl]
      simp [asAddr, Result.andThen, hl, fv]
end Go.Proofs.Ytdjcbfeilkepmaa.frmd
