/- spec's l1Put: a number put to its place in an ascending list, once (a region that draws, with three appends); the same in plain mathematics (no frames here). -/
import Derived.Test.YtglonedhoenkpaaLst
import Derived.Test.YtglonedhoenkpaaOwn
import Derived.Deep.RegionHeld3
import Derived.Deep.AppendLies
import Derived.Deep.CutBlock
import Derived.Deep.CutRange
namespace Go.Proofs.Ytglonedhoenkpaa.putq
open Go.RowKit Go.Proofs.Ytglonedhoenkpaa.ints

/-- How many numbers at the head are less than y. -/
def lead : List Int → Int → Nat
  | [], _ => 0
  | x :: r, y => if x < y then lead r y + 1 else 0
theorem lead_le (xs : List Int) (y : Int) : lead xs y ≤ xs.length := by
  induction xs with
  | nil => exact Nat.le_refl _
  | cons x r ih => simp only [lead]; split <;> simp <;> omega
theorem lead_lt {xs : List Int} {y : Int} {j : Nat} (h : j < lead xs y) : xs.getD j 0 < y := by
  induction xs generalizing j with
  | nil => simp [lead] at h
  | cons x r ih =>
    simp only [lead] at h
    split at h
    · rename_i hx
      cases j with
      | zero => simpa using hx
      | succ j => simpa using ih (j := j) (by omega)
    · omega
theorem lead_end {xs : List Int} {y : Int} (h : lead xs y < xs.length) : ¬ xs.getD (lead xs y) 0 < y := by
  induction xs with
  | nil => simp at h
  | cons x r ih =>
    simp only [lead] at h ⊢
    split
    · rename_i hx
      rw [if_pos hx] at h
      simpa using ih (by simpa using h)
    · rename_i hx
      simpa using hx
/-- The list with y. -/
def put (xs : List Int) (y : Int) : List Int := if lead xs y < xs.length ∧ xs.getD (lead xs y) 0 = y then xs else xs.take (lead xs y) ++ [y] ++ xs.drop (lead xs y)
theorem put_same {xs : List Int} {y : Int} (h : lead xs y < xs.length) (he : xs.getD (lead xs y) 0 = y) : put xs y = xs := by unfold put; rw [if_pos ⟨h, he⟩]
theorem put_new {xs : List Int} {y : Int} (h : lead xs y < xs.length → ¬ xs.getD (lead xs y) 0 = y) : put xs y = xs.take (lead xs y) ++ [y] ++ xs.drop (lead xs y) := by
  unfold put; rw [if_neg (fun hh => h hh.1 hh.2)]
theorem put_length (xs : List Int) (y : Int) : (put xs y).length ≤ xs.length + 1 := by
  unfold put
  split
  · omega
  · have := lead_le xs y
    simp; omega

section
variable {P : Program}
/-- append onto a row of the call's own, also of nothing, at a step of a region that draws. -/
theorem step_append_any {ops : Array Oper} {o : Oper} {a : Act} {w : World} {K : Act → World → Prop} {Q : Exit → Act → World → Prop} {E : Prop} (hgd : o.guard = none) (s x : Operand) (t : TypeId)
    (ho : o.op = .call { callee := .builtin .append, args := #[s, x], argTypes := #[t, t] })
    (base : Nat) (e : TypeId) (i : TypeInfo) (z : Value) (ht : P.underlying t = some (.slice e)) (hi : P.info? e = some i) (hz : i.zero = some z)
    (hsize : i.size = 1) (hby : i.bytes = 8) (hzs : z.cells.size = 1)
    (v : Value) (n : Nat) (xs : List Value) (hs : a.eval s = v) (hown : w.ownsRow base e 1 v n xs)
    (ad : Addr) (m c : Nat) (news : List Value) (hx : a.eval x = .slice (some ad) m c) (hl : news.length = m) (hnews : ∀ j u, news[j]? = some u → w.cell? (ad.add j) = some u) (h1 : ∀ u ∈ news, u.oneCell' = true)
    (hb : n + m ≤ 1048577) (hbase : base ≤ w.heap.size)
    (h : ∀ v' w', w'.ownsRow base e 1 v' (n + m) (xs ++ news) → w.grownBy w' v.ownBlock → K (a.put o.dst v') w') :
    if Region.wanted o (yielded ops a.tmps) = true then Oper.wp P o a w K Q else E := by
  have hw : Region.wanted o (yielded ops a.tmps) = true := by simp [Region.wanted, hgd]
  rw [if_pos hw]
  obtain ⟨v', w', hr, h2, h3, _, _⟩ := run_append_own_at (P := P) w base t o.type e i z 1 8 ht hi hz hsize hby hzs (by omega) v n xs hown ad m c news (by omega) hnews h1 (by unfold maxLen; omega) (by omega) hbase
  unfold Oper.wp execOp
  simp only [ho, resolve, invoke, builtin, Sem.run_bind, Sem.run_pure, Result.andThen_ok, List.map_toArray, List.map_cons, List.map_nil, hs, hx, hr]
  exact h v' w' h2 h3
end

theorem ints_one (xs : List Int) : ∀ u ∈ cellsI xs, u.oneCell' = true := by
  intro u hu
  unfold cellsI at hu
  obtain ⟨x, _, rfl⟩ := List.mem_map.mp hu
  rfl
theorem cellsI_at {xs : List Int} {j : Nat} {u : Value} (h : (cellsI xs)[j]? = some u) : ∃ x, xs[j]? = some x ∧ u = .int .i64 x := by
  unfold cellsI at h
  rw [List.getElem?_map] at h
  cases hx : xs[j]? with
  | none => rw [hx] at h; cases h
  | some x => rw [hx] at h; exact ⟨x, rfl, by simpa using h.symm⟩

theorem below_step {W w w' : World} {B e n : Nat} {v : Value} {xs : List Value} (h : Below B W w) (hB : B ≤ w.heap.size) (hown : w.ownsRow B e 1 v n xs) (hg : w.grownBy w' v.ownBlock) : Below B W w' :=
  h.grown hg hB (own_.row_ge hown)
/-- y in an ascending list, once. -/
def ins : List Int → Int → List Int
  | [], y => [y]
  | x :: r, y => if x < y then x :: ins r y else if x = y then x :: r else y :: x :: r
theorem put_ins : ∀ xs y, put xs y = ins xs y
  | [], y => by unfold put lead ins; simp
  | x :: r, y => by
    have ih := put_ins r y
    unfold put at ih ⊢
    unfold ins
    by_cases h : x < y
    · have hl : lead (x :: r) y = lead r y + 1 := by simp only [lead, if_pos h]
      rw [if_pos h, ← ih, hl]
      by_cases hc : lead r y < r.length ∧ r.getD (lead r y) 0 = y
      · rw [if_pos hc, if_pos ⟨by simp; exact hc.1, by simpa using hc.2⟩]
      · rw [if_neg hc, if_neg (fun hh => hc ⟨by simpa using hh.1, by simpa using hh.2⟩)]
        simp
    · have hl : lead (x :: r) y = 0 := by simp only [lead, if_neg h]
      rw [if_neg h, hl]
      by_cases he : x = y
      · rw [if_pos he, if_pos ⟨by simp, by simpa using he⟩]
      · rw [if_neg he, if_neg (fun hh => he (by simpa using hh.2))]
        simp
theorem mem_ins {z : Int} : ∀ {xs : List Int} {y : Int}, z ∈ ins xs y ↔ z ∈ xs ∨ z = y
  | [], y => by simp [ins]
  | x :: r, y => by
    unfold ins
    have ih := mem_ins (z := z) (xs := r) (y := y)
    split
    · rw [List.mem_cons, ih, List.mem_cons, or_assoc]
    · split
      · rename_i he
        subst he
        constructor
        · exact .inl
        · rintro (h | rfl)
          · exact h
          · exact List.mem_cons_self
      · rw [List.mem_cons, or_comm]
theorem ins_asc : ∀ {xs : List Int} {y : Int}, xs.Pairwise (· < ·) → (ins xs y).Pairwise (· < ·)
  | [], y, _ => by simp [ins]
  | x :: r, y, h => by
    rw [List.pairwise_cons] at h
    unfold ins
    split
    · rename_i hx
      rw [List.pairwise_cons]
      refine ⟨fun z hz => ?_, ins_asc h.2⟩
      rcases mem_ins.1 hz with hz | rfl
      · exact h.1 z hz
      · exact hx
    · split
      · exact List.pairwise_cons.2 h
      · refine List.pairwise_cons.2 ⟨fun z hz => ?_, List.pairwise_cons.2 h⟩
        rcases List.mem_cons.1 hz with rfl | hz
        · omega
        · have := h.1 z hz; omega
end Go.Proofs.Ytglonedhoenkpaa.putq
