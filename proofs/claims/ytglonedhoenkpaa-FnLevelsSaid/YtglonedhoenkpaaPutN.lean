/- spec's l1Put at a nil list, walked. -/
import Derived.Test.YtglonedhoenkpaaPutR
import Derived.Laws.AppendOwnNone
namespace Go.Proofs.Ytglonedhoenkpaa.putn
open Go.RowKit Go.Proofs.Ytglonedhoenkpaa.ints Go.Proofs.Ytglonedhoenkpaa.putq Go.Proofs.Ytglonedhoenkpaa.putr

section
variable {P : Program}
theorem step_append_none {ops : Array Oper} {o : Oper} {a : Act} {w : World} {K : Act → World → Prop} {Q : Exit → Act → World → Prop} {E : Prop} (hgd : o.guard = none) (s x : Operand) (t : TypeId)
    (ho : o.op = .call { callee := .builtin .append, args := #[s, x], argTypes := #[t, t] })
    (base : Nat) (e : TypeId) (i : TypeInfo) (size : Nat) (ht : P.underlying t = some (.slice e)) (hi : P.info? e = some i)
    (v : Value) (n : Nat) (xs : List Value) (hs : a.eval s = v) (hown : w.ownsRow base e size v n xs) (hx : a.eval x = .slice none 0 0)
    (h : K (a.put o.dst v) w) :
    if Region.wanted o (yielded ops a.tmps) = true then Oper.wp P o a w K Q else E := by
  have hw : Region.wanted o (yielded ops a.tmps) = true := by simp [Region.wanted, hgd]
  rw [if_pos hw]
  have hrun := run_append_owned_none (P := P) (w := w) base t o.type e i size ht hi v n xs hown
  unfold Oper.wp
  simp [execOp, ho, resolve, invoke, builtin, hs, hx, hrun, Result.andThen]
  exact h
end

theorem news_one {W : World} {b : Nat} {x : Value} (hc : W.cell? ⟨b, 0, none⟩ = some x) : ∀ j u, [x][j]? = some u → W.cell? ((⟨b, 0, none⟩ : Addr).add j) = some u := by
  intro j u hu
  match j, hu with
  | 0, hu =>
    rw [Addr.add_zero', hc]
    exact hu
  | j + 1, hu => simp at hu
set_option maxRecDepth 100000 in
set_option maxHeartbeats 4000000 in
theorem l1Put_nil (B : Nat) (y : Int) (w : World) (hB : B ≤ w.heap.size) :
    Calls Try.prog 62 #[.slice none 0 0, .int .i64 y] w fun e w' => ∃ v, e = .returned v ∧ w'.ownsRow B 3 1 v 1 (cellsI [y]) ∧ Below w.heap.size w w' := by
  go_enter Try.func62, Try.ntmps62
  go_upto_block 0 with fail
  go_cut [5] from 6 to 19 (fun i wx => i = .int .i64 0 ∧ wx = w)
  case first =>
    go_wp2_with fail
    go_loop [5] (fun i => i = .int .i64 0) (fun i => 0)
    case atStart => rfl
    case round =>
      subst hrel
      go_wp2_with fail
      go_meet
      exact ⟨rfl, rfl⟩
  case rest =>
    obtain ⟨rfl, rfl⟩ := hcut
    go_upto_region 6 with fail
    obtain ⟨i0, hi, hz0, hz1, hz2⟩ := info_parts lst.infoI
    have cA := two_last wc 3 y
    have cB := two_first wc 3 y
    go_region_held3 (fun w' => Below wc.heap.size wc w') (first
      | exact (Below.refl _ _).drew
      | assumption
      | exact ((Below.refl _ _).alloc (Nat.le_refl _) _).drew
      | exact (((Below.refl _ _).alloc (Nat.le_refl _) _).alloc (by rw [World.size_alloc]; omega) _).drew
      | exact Below.alloc (by assumption) (Below.size (by assumption)) _) (first
      | (refine step_append_none rfl (.tmp 33) (.tmp 36) 32 rfl wc.heap.size 3 i0 1 Try.underlying32 hi _ 0 [] rfl (by first | exact own_.own_empty wc _ | exact (own_.own_empty wc _).alloc _ | exact own_second wc _ _) rfl ?_)
      | (refine step_append_any rfl (.tmp 37) (.tmp 39) 32 rfl wc.heap.size 3 i0 (.int .i64 0) Try.underlying32 hi hz0 hz1 hz2 rfl _ 0 [] rfl (by first | exact own_.own_empty wc _ | exact (own_.own_empty wc _).alloc _ | exact own_second wc _ _) _ 1 1 [.int .i64 y] rfl rfl (by first | exact cell_one_new _ _ _ | exact news_one cA | exact news_one cB) (own_.one_cell _ rfl) (by omega) (by first | exact Nat.le_refl _ | exact Below.size (by assumption) | (simp only [World.size_alloc, World.size_drew]; omega)) ?_
         intro v2 w2 o2 g2
         have hB2 := below_step (by first | assumption | exact (((Below.refl _ _).alloc (Nat.le_refl _) _).alloc (by rw [World.size_alloc]; omega) _).drew) (by first | exact Below.size (by assumption) | (simp only [World.size_alloc, World.size_drew]; omega)) (by first | exact own_.own_empty wc _ | exact (own_.own_empty wc _).alloc _ | exact own_second wc _ _) g2)
      | (refine step_append_none rfl (.tmp 40) (.tmp 43) 32 rfl wc.heap.size 3 i0 1 Try.underlying32 hi _ 1 _ rfl o2 rfl ?_))
    all_goals (
      go_wp2_with fail
      go_ret
      exact ⟨_, rfl, own_.own_base (by assumption) hB, by assumption⟩)
end Go.Proofs.Ytglonedhoenkpaa.putn
