/- A number put into an owned list of numbers by three appends in a region that draws: what its walk needs. -/
import Derived.Test.YtndogafihaooiaaLst
import Derived.Deep.RegionHeld3
import Derived.Deep.AppendLies
import Derived.Laws.OwnMore
import Derived.Deep.CutBlock
import Derived.Deep.CutRange
namespace Go.Proofs.Ytndogafihaooiaa.ins
open Go.RowKit Go.Proofs.Ytndogafihaooiaa.ints Go.Proofs.Ytndogafihaooiaa.lst

section
variable {P : Program}
/-- append onto a row of the call's own, also of nothing, at a step of a region that draws. -/
theorem step_append_any {ops : Array Oper} {o : Oper} {a : Act} {w : World} {K : Act → World → Prop} {Q : Exit → Act → World → Prop} {E : Prop} (hgd : o.guard = none) (s x : Operand) (t : TypeId)
    (ho : o.op = .call { callee := .builtin .append, args := #[s, x], argTypes := #[t, t] })
    (base : Nat) (e : TypeId) (i : TypeInfo) (z : Value) (ht : P.underlying t = some (.slice e)) (hi : P.info? e = some i) (hz : i.zero = some z)
    (hsize : i.size = 1) (hby : i.bytes = 8) (hzs : z.cells.size = 1)
    (v : Value) (n : Nat) (xs : List Value) (hs : a.eval s = v) (hown : w.ownsRow base e 1 v n xs)
    (ad : Addr) (m c : Nat) (news : List Value) (hx : a.eval x = .slice (some ad) m c) (hl : news.length = m) (hnews : ∀ j u, news[j]? = some u → w.cell? (ad.add j) = some u) (h1 : ∀ u ∈ news, u.oneCell' = true)
    (hb : n + m ≤ 1048577) (hbase : base ≤ w.heap.size)
    (h : ∀ v' w', w'.ownsRow base e 1 v' (n + m) (xs ++ news) → w.grownBy w' v.ownBlock → K (a.put o.dst v') w') :
    if Region.wanted o (yielded ops a.tmps) = true then Oper.wp P o a w K Q else E := by
  have hw : Region.wanted o (yielded ops a.tmps) = true := by simp [Region.wanted, hgd]
  rw [if_pos hw]
  obtain ⟨v', w', hr, h2, h3, _, _⟩ := run_append_own_at (P := P) w base t o.type e i z 1 8 ht hi hz hsize hby hzs (by omega) v n xs hown ad m c news (by omega) hnews h1 (by unfold maxLen; omega) (by omega) hbase
  unfold Oper.wp execOp
  simp only [ho, resolve, invoke, builtin, Sem.run_bind, Sem.run_pure, Result.andThen_ok, List.map_toArray, List.map_cons, List.map_nil, hs, hx, hr]
  exact h v' w' h2 h3
end

theorem ints_one (xs : List Int) : ∀ u ∈ cellsI xs, u.oneCell' = true := by
  intro u hu
  unfold cellsI at hu
  obtain ⟨x, _, rfl⟩ := List.mem_map.mp hu
  rfl
theorem cellsI_at {xs : List Int} {j : Nat} {u : Value} (h : (cellsI xs)[j]? = some u) : ∃ x, xs[j]? = some x ∧ u = .int .i64 x := by
  unfold cellsI at h
  rw [List.getElem?_map] at h
  cases hx : xs[j]? with
  | none => rw [hx] at h; cases h
  | some x => rw [hx] at h; exact ⟨x, rfl, by simpa using h.symm⟩

theorem below_step {W w w' : World} {B e n : Nat} {v : Value} {xs : List Value} (h : Below B W w) (hB : B ≤ w.heap.size) (hown : w.ownsRow B e 1 v n xs) (hg : w.grownBy w' v.ownBlock) : Below B W w' :=
  h.grown hg hB (own_.row_ge hown)
theorem src_take {w : World} {g n k : Nat} {xs : List Int} (h : ∀ j, j < n → w.cell? ⟨g, j, none⟩ = some (.int .i64 (xs.getD j 0)) ∧ g < w.heap.size) (hl : xs.length = n) (hk : k ≤ n) :
    ∀ W, Below w.heap.size w W → ∀ j u, (cellsI (xs.take k))[j]? = some u → W.cell? ((⟨g, 0, none⟩ : Addr).add j) = some u := by
  intro W hb j u hu
  obtain ⟨x, hx, rfl⟩ := cellsI_at hu
  have hj : j < n := by have := (List.getElem?_eq_some_iff.1 hx).1; rw [List.length_take] at this; omega
  have hjk : j < k := by have := (List.getElem?_eq_some_iff.1 hx).1; rw [List.length_take] at this; omega
  rw [Addr.add_lit, Nat.zero_add, hb.cell (p := ⟨g, j, none⟩) (h j hj).2, (h j hj).1, List.getD_eq_getElem?_getD]
  rw [List.getElem?_take, if_pos hjk] at hx
  rw [hx]; rfl
theorem src_drop {w : World} {g n k : Nat} {xs : List Int} (h : ∀ j, j < n → w.cell? ⟨g, j, none⟩ = some (.int .i64 (xs.getD j 0)) ∧ g < w.heap.size) (hl : xs.length = n) :
    ∀ W, Below w.heap.size w W → ∀ j u, (cellsI (xs.drop k))[j]? = some u → W.cell? ((⟨g, k, none⟩ : Addr).add j) = some u := by
  intro W hb j u hu
  obtain ⟨x, hx, rfl⟩ := cellsI_at hu
  have hj : k + j < n := by have := (List.getElem?_eq_some_iff.1 hx).1; rw [List.length_drop] at this; omega
  rw [Addr.add_lit, hb.cell (p := ⟨g, k + j, none⟩) (h _ hj).2, (h _ hj).1, List.getD_eq_getElem?_getD]
  rw [List.getElem?_drop] at hx
  rw [hx]; rfl
theorem src_none {w : World} {n k : Nat} {xs : List Int} (g o : Nat) (hl : xs.length = n) (hk : n ≤ k) :
    ∀ W, Below w.heap.size w W → ∀ j u, (cellsI (xs.drop k))[j]? = some u → W.cell? ((⟨g, o, none⟩ : Addr).add j) = some u := by
  intro W _ j u hu
  rw [List.drop_eq_nil_of_le (by omega)] at hu
  simp [cellsI] at hu
theorem two_last (w : World) (e : TypeId) (y : Int) : ((w.alloc (.cells #[] e)).alloc (.cells #[.int .i64 y] e)).drew.cell? ⟨w.heap.size + 1, 0, none⟩ = some (.int .i64 y) := by
  have := cell_one_new (w.alloc (.cells #[] e)) (.int .i64 y) e 0 (.int .i64 y) rfl
  rw [Addr.add_zero', World.size_alloc] at this
  exact this
theorem two_first (w : World) (e : TypeId) (y : Int) : ((w.alloc (.cells #[.int .i64 y] e)).alloc (.cells #[] e)).drew.cell? ⟨w.heap.size, 0, none⟩ = some (.int .i64 y) := by
  have := cell_one_new w (.int .i64 y) e 0 (.int .i64 y) rfl
  rw [Addr.add_zero'] at this
  have h2 := World.cell?_alloc_lt (w.alloc (.cells #[.int .i64 y] e)) (.cells #[] e) ⟨w.heap.size, 0, none⟩ (by rw [World.size_alloc]; exact Nat.lt_succ_self _)
  exact h2.trans this
theorem own_second (w : World) (e : TypeId) (o : Obj) : ((w.alloc o).alloc (.cells #[] e)).ownsRow w.heap.size e 1 (.slice (some ⟨w.heap.size + 1, 0, none⟩) 0 0) 0 [] := by
  have h := own_.own_empty (w.alloc o) e
  rw [World.size_alloc] at h
  exact own_.own_base h (by omega)
theorem news_far {W w1 : World} {b : Nat} {x : Value} {r : Option Nat} (hg : W.grownBy w1 r) (hc : W.cell? ⟨b, 0, none⟩ = some x) (hr : some b ≠ r) : ∀ j u, [x][j]? = some u → w1.cell? ((⟨b, 0, none⟩ : Addr).add j) = some u := by
  intro j u hu
  match j, hu with
  | 0, hu =>
    rw [Addr.add_zero', hg.cell_far ⟨b, 0, none⟩ (World.block_lt_of_cell? _ _ hc) hr, hc]
    exact hu
  | j + 1, hu => simp at hu
theorem own_three {w : World} {B e n k : Nat} {v : Value} {xs : List Int} {y : Int} (hl : xs.length = n) (hk : k ≤ n) (h : w.ownsRow B e 1 v (k + 1 + (n - k)) (cellsI (xs.take k) ++ [.int .i64 y] ++ cellsI (xs.drop k))) :
    w.ownsRow B e 1 v (xs.take k ++ [y] ++ xs.drop k).length (cellsI (xs.take k ++ [y] ++ xs.drop k)) := by
  have e1 : (xs.take k ++ [y] ++ xs.drop k).length = k + 1 + (n - k) := by simp; omega
  rw [e1]
  unfold cellsI at h ⊢
  rw [List.map_append, List.map_append]
  exact h

theorem own_posC {w : World} {B e s n : Nat} {v : Value} {xs : List Value} (h : w.ownsRow B e s v n xs) (hn : 0 < n) : ∃ g c, v = .slice (some ⟨g, 0, none⟩) n c ∧ n ≤ c ∧ B ≤ g := by
  rcases h.2 with ⟨_, e2⟩ | ⟨g, cap, cur, e2, _, _, hle, _⟩
  · omega
  · exact ⟨g, cap, e2, hle, own_.row_ge h g (by rw [e2]; rfl)⟩
theorem own_at {w : World} {B e n g c j : Nat} {xs : List Int} (h : w.ownsRow B e 1 (.slice (some ⟨g, 0, none⟩) n c) n (cellsI xs)) (hl : xs.length = n) (hj : j < n) : w.cell? ⟨g, j, none⟩ = some (.int .i64 (xs.getD j 0)) := by
  rw [h.cellAt j (by omega)]
  unfold cellsI
  rw [List.getElem?_map, List.getD_eq_getElem?_getD, List.getElem?_eq_getElem (by omega)]; rfl
end Go.Proofs.Ytndogafihaooiaa.ins
