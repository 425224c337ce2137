/- A slice of numbers that begins inside its row (a queue): one cell put behind it by append. -/
import Derived.Test.YtndogafihaooiaaOwn
import Derived.Laws.OwnMore
import Derived.Laws.AppendOwn
namespace Go.Proofs.Ytndogafihaooiaa.que
open Go.RowKit

section
variable {P : Program} (w : World)
/-- append of one cell to the slice of k cells from the place o on of a row of the call's own: in place, or in a new row. -/
theorem run_append_off (base : Nat) (t ty e : TypeId) (i : TypeInfo) (z : Value) (ht : P.underlying t = some (.slice e)) (hi : P.info? e = some i) (hz : i.zero = some z)
    (hsize : i.size = 1) (hby : i.bytes = 8) (hzs : z.cells.size = 1)
    (g o k c : Nat) (xs : List Value) (hown : w.ownsRow base e 1 (.slice (some ⟨g, 0, none⟩) (o + k) (o + c)) (o + k) xs)
    (a : Addr) (cx : Nat) (u : Value) (hu : w.cell? a = some u) (h1 : u.oneCell' = true) (hb : o + k ≤ 1048576) (hbase : base ≤ w.heap.size) :
    ∃ g' o' c' w' ys, (Builtin.append_ #[t, t] ty #[.slice (some ⟨g, o, none⟩) k c, .slice (some a) 1 cx]).run P w = .ok (.slice (some ⟨g', o', none⟩) (k + 1) c') w' ∧
      w'.ownsRow base e 1 (.slice (some ⟨g', 0, none⟩) (o' + (k + 1)) (o' + c')) (o' + (k + 1)) ys ∧ ys.drop o' = xs.drop o ++ [u] ∧ o' + (k + 1) ≤ o + k + 1 ∧ k + 1 ≤ c' ∧ w.grownBy w' (some g) ∧ (g' = g ∨ w.heap.size ≤ g') := by
  have hlx : xs.length = o + k := by have := hown.1; omega
  have hcell : ∀ j v, xs[j]? = some v → w.cell? ((⟨g, 0, none⟩ : Addr).add j) = some v := hown.cells (g := g) rfl
  rcases hown.2 with ⟨h0, _⟩ | ⟨g2, cap, cur, hv, hbg, hg, hnc, hcm, hcs, htake⟩
  · cases h0
  · injection hv with hv1 hv2 hv3
    injection hv1 with hv1
    injection hv1 with hv1
    subst hv1
    subst hv3
    have hnews : ∀ j v, [u][j]? = some v → w.cell? (a.add j) = some v := by
      intro j v hj
      match j, hj with
      | 0, hj => rw [Addr.add_zero', hu]; exact hj
      | j + 1, hj => simp at hj
    by_cases hroom : k + 1 ≤ c
    · refine ⟨g, o, c, w.setRow g (cur.toList.take (o + k) ++ [u] ++ cur.toList.drop (o + k + 1)).toArray, xs ++ [u], ?_, ⟨by rw [List.length_append, hlx]; simp; omega, .inr ⟨g, o + c, _, rfl, hbg, setRow_heap w g cur _ e _ hg, by omega, hcm, ?_, ?_⟩⟩, ?_, by omega, hroom, ⟨rfl, rfl, rfl, by simp, fun j _ hj => setRow_other w g j _ (fun e => hj (by simp [e]))⟩, .inl rfl⟩
      · have hf := run_firstCells_some (P := P) w i.size 1 a 1 cx [u] (by rw [hsize]; rfl) hnews
        have hst := run_storeCells_at P g (o + k) e [u] 0 cur w hg (by simp; omega) (fun v hv => by
          obtain rfl := List.mem_singleton.1 hv; exact h1)
        simp only [Nat.add_zero, List.length_singleton] at hst
        rw [hsize] at hf
        simp [Builtin.append_, run_underlying ht, sizeOf, typeInfo, hi, Builtin.lenOf, hroom, hsize, hf, Addr.add_lit]
        rw [hst]
        simp
      · simp only [List.size_toArray, List.length_append, List.length_take, List.length_drop, Array.length_toList, List.length_singleton]
        omega
      · have hx : cur.toList.take (o + k) = xs := by rw [← htake, Nat.mul_one]
        rw [hx, Nat.mul_one, show o + (k + 1) = (xs ++ [u]).length by rw [List.length_append, hlx]; rfl]
        exact List.take_left
      · rw [List.drop_append_of_le_length (by omega)]
    · have holds : ∀ j v, (xs.drop o)[j]? = some v → w.cell? ((⟨g, o, none⟩ : Addr).add j) = some v := by
        intro j v hj
        rw [List.getElem?_drop] at hj
        have := hcell _ _ hj
        rw [Addr.add_lit] at this ⊢
        rw [Nat.zero_add] at this
        exact this
      have hr := run_append_grow (P := P) w t ty e i z ht hi hz ⟨g, o, none⟩ k c (xs.drop o) (by rw [List.length_drop, hlx, hsize]; omega) holds a 1 cx [u] (by rw [hsize]; rfl) hnews (by omega) (by omega) (growslice_fits (by omega) (by rw [hby]; omega))
      have hge := grownCap_ge w (k + 1) c e
      have hcm2 : grownCap w (k + 1) c e ≤ maxLen := grownCap_le_maxLen w (k + 1) c e (by unfold maxLen; omega)
      refine ⟨w.heap.size, 0, _, _, xs.drop o ++ [u], hr, ⟨by rw [List.length_append, List.length_drop, hlx, List.length_singleton]; omega, .inr ⟨w.heap.size, _, _, by rw [Nat.zero_add, Nat.zero_add], hbase, heap_alloc_new w.drew _, by omega, by omega, ?_, ?_⟩⟩, by rw [List.drop_zero], by omega, by omega, ⟨rfl, rfl, rfl, by simp, fun j hj _ => Go.heap_alloc_old w.drew _ hj⟩, .inr (Nat.le_refl _)⟩
      · simp only [Array.size_append, List.size_toArray, size_zeroCells, hzs, List.length_drop, hlx, List.length_singleton]
        omega
      · simp only [Array.toList_append, List.append_assoc]
        rw [← List.append_assoc, show (0 + (k + 1)) * 1 = (xs.drop o ++ [u]).length by rw [List.length_append, List.length_drop, hlx, List.length_singleton]; omega]
        exact List.take_left

/-- .. as a step of a region that draws. -/
theorem step_append_off {ops : Array Oper} {op : Oper} {ac : Act} {K : Act → World → Prop} {Q : Exit → Act → World → Prop} {E : Prop} (hgd : op.guard = none) (s x : Operand) (t : TypeId)
    (ho : op.op = .call { callee := .builtin .append, args := #[s, x], argTypes := #[t, t] })
    (base : Nat) (e : TypeId) (i : TypeInfo) (z : Value) (ht : P.underlying t = some (.slice e)) (hi : P.info? e = some i) (hz : i.zero = some z)
    (hsize : i.size = 1) (hby : i.bytes = 8) (hzs : z.cells.size = 1)
    (g o k c : Nat) (xs : List Value) (hs : ac.eval s = .slice (some ⟨g, o, none⟩) k c) (hown : w.ownsRow base e 1 (.slice (some ⟨g, 0, none⟩) (o + k) (o + c)) (o + k) xs)
    (a : Addr) (cx : Nat) (u : Value) (hx : ac.eval x = .slice (some a) 1 cx) (hu : w.cell? a = some u) (h1 : u.oneCell' = true) (hb : o + k ≤ 1048576) (hbase : base ≤ w.heap.size)
    (h : ∀ g' o' c' w' ys, w'.ownsRow base e 1 (.slice (some ⟨g', 0, none⟩) (o' + (k + 1)) (o' + c')) (o' + (k + 1)) ys → ys.drop o' = xs.drop o ++ [u] → o' + (k + 1) ≤ o + k + 1 → k + 1 ≤ c' → w.grownBy w' (some g) → (g' = g ∨ w.heap.size ≤ g') → K (ac.put op.dst (.slice (some ⟨g', o', none⟩) (k + 1) c')) w') :
    if Region.wanted op (yielded ops ac.tmps) = true then Oper.wp P op ac w K Q else E := by
  have hw : Region.wanted op (yielded ops ac.tmps) = true := by simp [Region.wanted, hgd]
  rw [if_pos hw]
  obtain ⟨g', o', c', w', ys, hr, a1, a2, a3, a4, a5, a6⟩ := run_append_off (P := P) w base t op.type e i z ht hi hz hsize hby hzs g o k c xs hown a cx u hu h1 hb hbase
  unfold Oper.wp execOp
  simp only [ho, resolve, invoke, builtin, Sem.run_bind, Sem.run_pure, Result.andThen_ok, List.map_toArray, List.map_cons, List.map_nil, hs, hx, hr]
  exact h g' o' c' w' ys a1 a2 a3 a4 a5 a6
/-- .. as an operation of the walk. -/
theorem wpList_append_off {ops : Array Oper} {rest : List Oper} {op : Oper} {ac : Act} {Q : Exit → Act → World → Prop} (hgd : op.guard = none) (s x : Operand) (t : TypeId)
    (ho : op.op = .call { callee := .builtin .append, args := #[s, x], argTypes := #[t, t] })
    (base : Nat) (e : TypeId) (i : TypeInfo) (z : Value) (ht : P.underlying t = some (.slice e)) (hi : P.info? e = some i) (hz : i.zero = some z)
    (hsize : i.size = 1) (hby : i.bytes = 8) (hzs : z.cells.size = 1)
    (g o k c : Nat) (xs : List Value) (hs : ac.eval s = .slice (some ⟨g, o, none⟩) k c) (hown : w.ownsRow base e 1 (.slice (some ⟨g, 0, none⟩) (o + k) (o + c)) (o + k) xs)
    (a : Addr) (cx : Nat) (u : Value) (hx : ac.eval x = .slice (some a) 1 cx) (hu : w.cell? a = some u) (h1 : u.oneCell' = true) (hb : o + k ≤ 1048576) (hbase : base ≤ w.heap.size)
    (h : ∀ g' o' c' w' ys, w'.ownsRow base e 1 (.slice (some ⟨g', 0, none⟩) (o' + (k + 1)) (o' + c')) (o' + (k + 1)) ys → ys.drop o' = xs.drop o ++ [u] → o' + (k + 1) ≤ o + k + 1 → k + 1 ≤ c' → w.grownBy w' (some g) → (g' = g ∨ w.heap.size ≤ g') → wpList P ops Q rest (ac.put op.dst (.slice (some ⟨g', o', none⟩) (k + 1) c')) w') :
    wpList P ops Q (op :: rest) ac w := by
  refine wpList_plain hgd fun K hK => ?_
  obtain ⟨g', o', c', w', ys, hr, a1, a2, a3, a4, a5, a6⟩ := run_append_off (P := P) w base t op.type e i z ht hi hz hsize hby hzs g o k c xs hown a cx u hu h1 hb hbase
  unfold Oper.wp execOp
  simp only [ho, resolve, invoke, builtin, Sem.run_bind, Sem.run_pure, Result.andThen_ok, List.map_toArray, List.map_cons, List.map_nil, hs, hx, hr]
  exact hK _ _ (h g' o' c' w' ys a1 a2 a3 a4 a5 a6)
/-- .. from its first place on. -/
theorem wpList_append_one {ops : Array Oper} {rest : List Oper} {op : Oper} {ac : Act} {Q : Exit → Act → World → Prop} (hgd : op.guard = none) (s x : Operand) (t : TypeId)
    (ho : op.op = .call { callee := .builtin .append, args := #[s, x], argTypes := #[t, t] })
    (base : Nat) (e : TypeId) (i : TypeInfo) (z : Value) (ht : P.underlying t = some (.slice e)) (hi : P.info? e = some i) (hz : i.zero = some z)
    (hsize : i.size = 1) (hby : i.bytes = 8) (hzs : z.cells.size = 1)
    (g k c : Nat) (xs : List Value) (hs : ac.eval s = .slice (some ⟨g, 0, none⟩) k c) (hown : w.ownsRow base e 1 (.slice (some ⟨g, 0, none⟩) k c) k xs)
    (a : Addr) (cx : Nat) (u : Value) (hx : ac.eval x = .slice (some a) 1 cx) (hu : w.cell? a = some u) (h1 : u.oneCell' = true) (hb : k ≤ 1048576) (hbase : base ≤ w.heap.size)
    (h : ∀ g' c' w', w'.ownsRow base e 1 (.slice (some ⟨g', 0, none⟩) (k + 1) c') (k + 1) (xs ++ [u]) → k + 1 ≤ c' → w.grownBy w' (some g) → (g' = g ∨ w.heap.size ≤ g') → wpList P ops Q rest (ac.put op.dst (.slice (some ⟨g', 0, none⟩) (k + 1) c')) w') :
    wpList P ops Q (op :: rest) ac w := by
  refine wpList_append_off w hgd s x t ho base e i z ht hi hz hsize hby hzs g 0 k c xs hs (by rw [Nat.zero_add, Nat.zero_add]; exact hown) a cx u hx hu h1 (by omega) hbase ?_
  intro g' o' c' w' ys a1 a2 a3 a4 a5 a6
  obtain rfl : o' = 0 := by omega
  rw [Nat.zero_add, Nat.zero_add] at a1
  rw [List.drop_zero, List.drop_zero] at a2
  subst a2
  exact h g' c' w' a1 a4 a5 a6
end
end Go.Proofs.Ytndogafihaooiaa.que
