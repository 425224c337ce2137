/- spec's draws of plots and of a gate. -/
import Derived.Test.YtinkkdgjpcnklaaDoorDrawT14
namespace Go.Proofs.YtinkkdgjpcnklaaDoor.drawu14
open Go.RowKit Go.Proofs.YtinkkdgjpcnklaaDoor.cur Go.Proofs.YtinkkdgjpcnklaaDoor.atc Go.Proofs.YtinkkdgjpcnklaaDoor.ats Go.Proofs.YtinkkdgjpcnklaaDoor.ints Go.Proofs.YtinkkdgjpcnklaaDoor.lst Go.Proofs.YtinkkdgjpcnklaaDoor.code_ Go.Proofs.YtinkkdgjpcnklaaDoor.draws14 Go.Proofs.YtinkkdgjpcnklaaDoor.drawt14 Go.Proofs.YtinkkdgjpcnklaaDoor.trk Go.Proofs.YtinkkdgjpcnklaaDoor.tailh

theorem infoP : (Tryd.prog.info? 51).map (fun i => (i.zero, i.size, i.bytes)) = some (some (.agg #[.int .i64 0, .int .i64 0]), 2, 16) := by kernel_rfl
theorem own_grow2 {w : World} {B e n : Nat} {v : Value} {xs : List Int} {x0 x1 : Int} (h : w.ownsRow B e 2 v (n + 1) (cellsI xs ++ [.int .i64 x0, .int .i64 x1])) : w.ownsRow B e 2 v (n + 1) (cellsI (xs ++ [x0, x1])) := by
  unfold cellsI at h ⊢
  rw [List.map_append]
  exact h
theorem own_len2 {w : World} {B e n : Nat} {v : Value} {xs : List Int} (h : w.ownsRow B e 2 v n (cellsI xs)) : xs.length = n * 2 := by have := h.1; unfold cellsI at this; simpa using this
theorem own_pos {w : World} {B e s n c : Nat} {A : Option Addr} {xs : List Value} (h : w.ownsRow B e s (.slice A n c) n xs) (hn : 0 < n) : ∃ g, A = some ⟨g, 0, none⟩ ∧ n ≤ c := by
  rcases h.2 with ⟨_, e2⟩ | ⟨g, cap, cur, e2, _, _, hle, _⟩
  · omega
  · injection e2 with e2 e3 e4
    subst e4
    exact ⟨g, e2, hle⟩
def PlotsQ (p m : Nat) (w : World) (e : Ending) (w' : World) : Prop := ∃ v n zs, e = .returned v ∧ w'.ownsRow w.heap.size 51 2 v n (cellsI zs) ∧ n ≤ 7 ∧ Cur w' p m ∧ w.grownBy w' (some p)
end Go.Proofs.YtinkkdgjpcnklaaDoor.drawu14
