/- spec's height codes: contracts. -/
import Derived.Test.YtinkkdgjpcnklaaHgt
import Derived.Test.YtinkkdgjpcnklaaIn
import Derived.Test.YtinkkdgjpcnklaaHgtJ
import Derived.Test.YtinkkdgjpcnklaaHgtK
import Derived.Test.YtinkkdgjpcnklaaHgtC
import Derived.Test.YtinkkdgjpcnklaaHgtG
namespace Go.Proofs.Ytinkkdgjpcnklaa.hgts
open Go.RowKit Go.Proofs.Ytinkkdgjpcnklaa.hgt Go.Proofs.Ytinkkdgjpcnklaa.bin Go.Proofs.Ytinkkdgjpcnklaa.in_ Go.Proofs.Ytinkkdgjpcnklaa.hgti Go.Proofs.Ytinkkdgjpcnklaa.hgtj Go.Proofs.Ytinkkdgjpcnklaa.hgtk Go.Proofs.Ytinkkdgjpcnklaa.hgtc Go.Proofs.Ytinkkdgjpcnklaa.hgtg

theorem isHeight (h : Int) (w : World) :
    Calls Try.prog 58 #[.int .i64 h] w fun e w' => e = .returned (.bool (hB h)) ∧ w = w' := by
  have HI := Lib.hid (fun w => l1In h (-2000) 130000 w)
  have e0 : isIn h (-2000) 130000 = hB h := rfl
  rw [e0] at HI
  clear e0
  generalize hB h = b at *
  go_enter Try.func58, Try.ntmps58
  go_wp2_with fail
  refine (HI.out _).mono ?_
  rintro e w1 ⟨rfl, rfl⟩
  go_wp2_with fail
  go_ret
  exact ⟨rfl, rfl⟩

end Go.Proofs.Ytinkkdgjpcnklaa.hgts
