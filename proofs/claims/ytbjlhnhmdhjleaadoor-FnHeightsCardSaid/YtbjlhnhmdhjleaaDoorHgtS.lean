/- spec's height codes: contracts. -/
import Derived.Test.YtbjlhnhmdhjleaaDoorHgt
import Derived.Test.YtbjlhnhmdhjleaaDoorIn
import Derived.Test.YtbjlhnhmdhjleaaDoorHgtJ
import Derived.Test.YtbjlhnhmdhjleaaDoorHgtK
import Derived.Test.YtbjlhnhmdhjleaaDoorHgtC
import Derived.Test.YtbjlhnhmdhjleaaDoorHgtG
namespace Go.Proofs.YtbjlhnhmdhjleaaDoor.hgts
open Go.RowKit Go.Proofs.YtbjlhnhmdhjleaaDoor.hgt Go.Proofs.YtbjlhnhmdhjleaaDoor.bin Go.Proofs.YtbjlhnhmdhjleaaDoor.in_ Go.Proofs.YtbjlhnhmdhjleaaDoor.hgti Go.Proofs.YtbjlhnhmdhjleaaDoor.hgtj Go.Proofs.YtbjlhnhmdhjleaaDoor.hgtk Go.Proofs.YtbjlhnhmdhjleaaDoor.hgtc Go.Proofs.YtbjlhnhmdhjleaaDoor.hgtg

theorem isHeight (h : Int) (w : World) :
    Calls Tryd.prog 24 #[.int .i64 h] w fun e w' => e = .returned (.bool (hB h)) ∧ w = w' := by
  have HI := Lib.hid (fun w => l1In h (-2000) 130000 w)
  have e0 : isIn h (-2000) 130000 = hB h := rfl
  rw [e0] at HI
  clear e0
  generalize hB h = b at *
  go_enter Tryd.func24, Tryd.ntmps24
  go_wp2_with fail
  refine (HI.out _).mono ?_
  rintro e w1 ⟨rfl, rfl⟩
  go_wp2_with fail
  go_ret
  exact ⟨rfl, rfl⟩

end Go.Proofs.YtbjlhnhmdhjleaaDoor.hgts
