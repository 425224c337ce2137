/- Lists in memory, general words (no function of a chapter): ints and structs of ints in rows. -/
import Derived.Test.YtkndfklbonkbiaaInts
import Derived.Test.YtkndfklbonkbiaaAtS
import Derived.Laws.MakeOwn
import Derived.Laws.AppendOwn
import Derived.Deep.Heap
import Derived.Lib.QuietBelow
namespace Go.Proofs.Ytkndfklbonkbiaa.lst
open Go.RowKit Go.Proofs.Ytkndfklbonkbiaa.ints

/-- The slice (A, n) of structs of s ints reads as the ints zs; it lies below block B. -/
def RdZ (s : Nat) (w : World) (B : Nat) (A : Option Addr) (n : Nat) (zs : List Int) : Prop :=
  zs.length = n * s ∧ (0 < n → ∃ b o, A = some ⟨b, o, none⟩ ∧ b < B ∧ ∀ j x, zs[j]? = some x → w.cell? ⟨b, o + j, none⟩ = some (.int .i64 x))
theorem RdZ.below {s : Nat} {w w' : World} {B B' n : Nat} {A : Option Addr} {zs : List Int} (h : RdZ s w B A n zs) (hb : Below B' w w') (hB : B ≤ B') : RdZ s w' B A n zs :=
  ⟨h.1, fun hn => by
    obtain ⟨b, o, e, hlt, hc⟩ := h.2 hn
    exact ⟨b, o, e, hlt, fun j x hx => (hb.cell (p := ⟨b, o + j, none⟩) (by exact Nat.lt_of_lt_of_le hlt hB)).trans (hc j x hx)⟩⟩
theorem RdZ.next {s : Nat} {w w' : World} {n : Nat} {A : Option Addr} {zs : List Int} (h : RdZ s w w.heap.size A n zs) (hb : Below w.heap.size w w') : RdZ s w' w'.heap.size A n zs :=
  ⟨h.1, fun hn => by
    obtain ⟨b, o, e, hlt, hc⟩ := (h.below hb (Nat.le_refl _)).2 hn
    exact ⟨b, o, e, Nat.lt_of_lt_of_le hlt hb.size, hc⟩⟩
theorem RdZ.of_own {s : Nat} {w : World} {B e c n : Nat} {A : Option Addr} {zs : List Int} (h : w.ownsRow B e s (.slice A n c) n (cellsI zs)) (hz : zs.length = n * s) : RdZ s w w.heap.size A n zs := by
  refine ⟨hz, fun h0 => ?_⟩
  rcases h.2 with ⟨_, h1⟩ | ⟨g, cap, cur, hv, _, hh, _⟩
  · omega
  · injection hv with hA
    subst hA
    refine ⟨g, 0, rfl, ?_, fun j x hx => ?_⟩
    · rcases Nat.lt_or_ge g w.heap.size with h2 | h2
      · exact h2
      · rw [Array.getElem?_eq_none h2] at hh; cases hh
    · have := h.cells (g := g) rfl j (.int .i64 x) (by unfold cellsI; simp [hx])
      rwa [Addr.add_lit] at this
/-- Field j of element k. -/
def fld (s : Nat) (zs : List Int) (k j : Nat) : Int := zs.getD (k * s + j) 0
theorem RdZ.at_ {s : Nat} {w : World} {B n k : Nat} {A : Option Addr} {zs : List Int} (h : RdZ s w B A n zs) (hk : k < n) :
    ∃ b o, A = some ⟨b, o, none⟩ ∧ b < B ∧ ∀ j, j < s → w.cell? ⟨b, o + (k * s + j), none⟩ = some (.int .i64 (fld s zs k j)) := by
  obtain ⟨b, o, e, hb, hc⟩ := h.2 (by omega)
  refine ⟨b, o, e, hb, fun j hj => ?_⟩
  have hl : k * s + j < zs.length := by
    rw [h.1]
    have : (k + 1) * s ≤ n * s := Nat.mul_le_mul_right s hk
    rw [Nat.add_mul, Nat.one_mul] at this
    omega
  refine hc _ _ ?_
  unfold fld
  rw [List.getD_eq_getElem?_getD, List.getElem?_eq_getElem hl]
  rfl

theorem grown_set {w w1 : World} {g : Nat} (h : w.grownBy w1 (some g)) (o : Nat) (u : Value) : w.grownBy (w1.setCell ⟨g, o, none⟩ u) (some g) :=
  ⟨h.os, h.tape, h.output, by simpa [World.setCell] using h.size, fun k hk hne => (Go.Deep.blk_setCell_other w1 ⟨g, o, none⟩ u k (fun e => hne (by rw [show k = g from e]))).trans (h.block k hk hne)⟩
theorem grown_refl (w : World) (r : Option Nat) : w.grownBy w r := ⟨rfl, rfl, rfl, Nat.le_refl _, fun _ _ _ => rfl⟩
theorem own_kept {w w' : World} {B e size n : Nat} {v : Value} {xs : List Value} {r : Option Nat} (h : w.ownsRow B e size v n xs) (hg : w.grownBy w' r) (hr : ∀ g, r = some g → g < B) : w'.ownsRow B e size v n xs :=
  ⟨h.1, h.2.imp id (fun ⟨g, cap, cur, a, b, c, d⟩ => ⟨g, cap, cur, a, b, (hg.block g (by
    rcases Nat.lt_or_ge g w.heap.size with h | h
    · exact h
    · rw [Array.getElem?_eq_none h] at c; cases c) (fun e => by have := hr g e.symm; omega)).trans c, d⟩)⟩
theorem own_row_lt {w : World} {B e size n : Nat} {v : Value} {xs : List Value} (h : w.ownsRow B e size v n xs) : ∀ g, v.ownBlock = some g → g < w.heap.size := by
  intro g hg
  rcases h.2 with ⟨rfl, _⟩ | ⟨g', cap, cur, rfl, _, hh, _⟩
  · simp [Value.ownBlock] at hg
  · simp [Value.ownBlock] at hg
    subst hg
    rcases Nat.lt_or_ge g' w.heap.size with h | h
    · exact h
    · rw [Array.getElem?_eq_none h] at hh; cases hh

theorem infoI : (Try.prog.info? 3).map (fun i => (i.zero, i.size, i.bytes)) = some (some (.int .i64 0), 1, 8) := by kernel_rfl
theorem infoP : (Try.prog.info? 31).map (fun i => (i.zero, i.size, i.bytes)) = some (some (.agg #[.int .i64 0, .int .i64 0]), 2, 16) := by kernel_rfl
theorem own_growI {w : World} {B e : Nat} {v : Value} {xs : List Int} {x : Int} (h : w.ownsRow B e 1 v (xs.length + 1) (cellsI xs ++ [.int .i64 x])) : w.ownsRow B e 1 v (xs ++ [x]).length (cellsI (xs ++ [x])) := by
  unfold cellsI at h ⊢
  rw [List.map_append, List.length_append]
  exact h
theorem own_growP {w : World} {B e n : Nat} {v : Value} {zs : List Int} {x y : Int} (h : w.ownsRow B e 2 v (n + 1) (cellsI zs ++ [.int .i64 x, .int .i64 y])) : w.ownsRow B e 2 v (n + 1) (cellsI (zs ++ [x, y])) := by
  unfold cellsI at h ⊢
  rw [List.map_append]
  exact h
theorem own_sliceZ {w : World} {B e s n : Nat} {v : Value} {xs : List Value} (h : w.ownsRow B e s v n xs) : ∃ A c, v = .slice A n c := by
  rcases h.2 with ⟨rfl, h0⟩ | ⟨g, cap, cur, rfl, _⟩
  · exact ⟨_, _, by rw [h0]⟩
  · exact ⟨_, _, rfl⟩
theorem cells_new (w : World) (e : TypeId) (cs : Array Value) : ∀ j u, cs.toList[j]? = some u → (w.alloc (.cells cs e)).cell? ((⟨w.heap.size, 0, none⟩ : Addr).add j) = some u := by
  intro j u hu
  rw [Addr.add_lit, Nat.zero_add, cell_of_row _ _ j cs e (0, 0) (heap_alloc_new w _)]
  rw [← Array.getElem?_toList]; exact hu
theorem two_cells (x y : Int) : ∀ u ∈ [Value.int .i64 x, .int .i64 y], u.oneCell' = true := by
  intro u hu
  simp at hu
  rcases hu with rfl | rfl <;> rfl
theorem own_kept_at {w w' : World} {B e size n : Nat} {v : Value} {xs : List Value} {r : Option Nat} (h : w.ownsRow B e size v n xs) (hg : w.grownBy w' r) (hr : ∀ g, v.ownBlock = some g → r ≠ some g) : w'.ownsRow B e size v n xs :=
  ⟨h.1, h.2.imp id (fun ⟨g, cap, cur, a, b, c, d⟩ => ⟨g, cap, cur, a, b, (hg.block g (by
    rcases Nat.lt_or_ge g w.heap.size with h | h
    · exact h
    · rw [Array.getElem?_eq_none h] at c; cases c) (fun e => hr g (by rw [a]; rfl) e.symm)).trans c, d⟩)⟩
theorem own_lt {w : World} {B e size n g m c : Nat} {xs : List Value} (h : w.ownsRow B e size (.slice (some ⟨g, 0, none⟩) m c) n xs) : g < w.heap.size := by
  exact own_row_lt h g rfl
theorem own_emptyZ (w : World) (e : TypeId) (s : Nat) : (w.alloc (.cells #[] e)).ownsRow w.heap.size e s (.slice (some ⟨w.heap.size, 0, none⟩) 0 0) 0 [] := by
  refine ⟨by simp, .inr ⟨w.heap.size, 0, #[], rfl, Nat.le_refl _, ?_, Nat.le_refl _, Nat.zero_le _, by simp, by simp⟩⟩
  show (w.heap.push _)[w.heap.size]? = _
  simp
/-- A row of the call's own, as it is read; it lies at or above block B. -/
def RdO (w : World) (B : Nat) (A : Option Addr) (n : Nat) (xs : List Int) : Prop :=
  xs.length = n ∧ (0 < n → ∃ g, A = some ⟨g, 0, none⟩ ∧ B ≤ g ∧ g < w.heap.size ∧ ∀ j x, xs[j]? = some x → w.cell? ⟨g, j, none⟩ = some (.int .i64 x))
theorem RdO.of_own {w : World} {B e c n : Nat} {A : Option Addr} {xs : List Int} (h : w.ownsRow B e 1 (.slice A n c) n (cellsI xs)) (hn : xs.length = n) : RdO w B A n xs := by
  refine ⟨hn, fun h0 => ?_⟩
  rcases h.2 with ⟨_, h1⟩ | ⟨g, cap, cur, hv, hB, hh, _⟩
  · omega
  · injection hv with hA
    subst hA
    refine ⟨g, rfl, hB, ?_, fun j x hx => ?_⟩
    · rcases Nat.lt_or_ge g w.heap.size with h2 | h2
      · exact h2
      · rw [Array.getElem?_eq_none h2] at hh; cases hh
    · have := h.cells (g := g) rfl j (.int .i64 x) (by unfold cellsI; simp [hx])
      rwa [Addr.add_lit, Nat.zero_add] at this
theorem RdO.next {w w' : World} {B n : Nat} {A : Option Addr} {xs : List Int} (h : RdO w B A n xs) (hb : Below w.heap.size w w') : RdO w' B A n xs :=
  ⟨h.1, fun h0 => by
    obtain ⟨g, e, h1, h2, hc⟩ := h.2 h0
    exact ⟨g, e, h1, Nat.lt_of_lt_of_le h2 hb.size, fun j x hx => (hb.cell (p := ⟨g, j, none⟩) h2).trans (hc j x hx)⟩⟩
theorem RdO.kept {w w' : World} {B b n : Nat} {A : Option Addr} {xs : List Int} (h : RdO w B A n xs) (hg : w.grownBy w' (some b)) (hb : b < B) : RdO w' B A n xs :=
  ⟨h.1, fun h0 => by
    obtain ⟨g, e, h1, h2, hc⟩ := h.2 h0
    exact ⟨g, e, h1, Nat.lt_of_lt_of_le h2 hg.size, fun j x hx => hg.cell (a := ⟨g, j, none⟩) (hc j x hx) (fun e => by injection e with e; simp at e; omega)⟩⟩
theorem RdO.at_ {w : World} {B n k : Nat} {A : Option Addr} {xs : List Int} (h : RdO w B A n xs) (hk : k < n) :
    ∃ g x, A = some ⟨g, 0, none⟩ ∧ g < w.heap.size ∧ xs[k]? = some x ∧ w.cell? ⟨g, k, none⟩ = some (.int .i64 x) := by
  obtain ⟨g, e, _, h2, hc⟩ := h.2 (by omega)
  have hl : k < xs.length := by rw [h.1]; exact hk
  exact ⟨g, xs[k], e, h2, List.getElem?_eq_getElem hl, hc k _ (List.getElem?_eq_getElem hl)⟩
theorem RdO.cell {w : World} {B g n k : Nat} {xs : List Int} {x : Int} (h : RdO w B (some ⟨g, 0, none⟩) n xs) (hk : k < n) (hx : xs[k]? = some x) : w.cell? ⟨g, k, none⟩ = some (.int .i64 x) ∧ g < w.heap.size := by
  obtain ⟨g', e, _, h2, hc⟩ := h.2 (by omega)
  injection e with e
  injection e with e1 e2
  subst e1
  exact ⟨hc k x hx, h2⟩
/-- What writes a block beyond, or this one alone, leaves the others. -/
theorem grown_far {V w w' : World} {b : Nat} {r : Option Nat} (h : V.grownBy w (some b)) (hg : w.grownBy w' r) (hr : ∀ g, r = some g → g = b ∨ V.heap.size ≤ g) : V.grownBy w' (some b) :=
  ⟨hg.os.trans h.os, hg.tape.trans h.tape, hg.output.trans h.output, Nat.le_trans h.size hg.size, fun k hk hne => (hg.block k (Nat.lt_of_lt_of_le hk h.size) (fun e => by
    rcases hr k e.symm with h1 | h1
    · exact hne (by rw [h1])
    · omega)).trans (h.block k hk hne)⟩
theorem grown_drewN (w : World) (r : Option Nat) (j : Nat) : w.grownBy (w.drewN j) r := ⟨rfl, rfl, rfl, Nat.le_refl _, fun _ _ _ => rfl⟩
theorem grown_allocZ (w : World) (o : Obj) (r : Option Nat) : w.grownBy (w.alloc o) r :=
  ⟨rfl, rfl, rfl, by rw [World.size_alloc]; omega, fun k hk _ => by
    show (w.heap.push o)[k]? = _
    rw [Array.getElem?_push_lt hk, Array.getElem?_eq_getElem hk]⟩
/-- Places (two numbers each) that are appended, step by step: the row is the call's own; the blocks that the world W1 had are as they were, but for bo. -/
def St (B : Nat) (W0 W1 wr : World) (bo : Nat) (v : Value) (n : Nat) (zs : List Int) : Prop :=
  wr.ownsRow B 31 2 v n (cellsI zs) ∧ Below B W0 wr ∧ W1.grownBy wr (some bo) ∧ ∀ g, v.ownBlock = some g → g = bo ∨ W1.heap.size ≤ g
theorem St.app {B bo n : Nat} {W0 W1 wr w3 : World} {v v3 : Value} {zs : List Int} {x y : Int} {o : Obj} (h : St B W0 W1 wr bo v n zs) (hB : B ≤ wr.heap.size)
    (ho : w3.ownsRow B 31 2 v3 (n + 1) (cellsI zs ++ [.int .i64 x, .int .i64 y])) (hg : (wr.alloc o).drew.grownBy w3 v.ownBlock) (hv : v3.ownBlock = v.ownBlock ∨ v3.ownBlock = some (wr.alloc o).drew.heap.size) :
    St B W0 W1 w3 bo v3 (n + 1) (zs ++ [x, y]) := by
  obtain ⟨h1, h2, h3, h4⟩ := h
  have hsz : wr.heap.size ≤ (wr.alloc o).drew.heap.size := by
    show wr.heap.size ≤ (wr.alloc o).heap.size
    rw [World.size_alloc]; omega
  refine ⟨own_growP ho, (h2.alloc hB o).drew.grown hg (Nat.le_trans hB hsz) (own_.row_ge h1), ?_, ?_⟩
  · exact grown_far (grown_far h3 (show wr.grownBy (wr.alloc o).drew (some bo) from ⟨rfl, rfl, rfl, hsz, (grown_allocZ wr o (some bo)).block⟩) (fun g e => .inl (by injection e with e; exact e.symm))) hg h4
  · intro g e
    rcases hv with h | h
    · exact h4 g (h.symm.trans e)
    · rw [h] at e
      injection e with e
      have := h3.size
      right
      omega
section
variable {P : Program}
/-- append onto a row of the call's own at a step of a region that draws. -/
theorem step_append_sz {ops : Array Oper} {o : Oper} {a : Act} {w : World} {K : Act → World → Prop} {Q : Exit → Act → World → Prop} {E : Prop} (hgd : o.guard = none) (s x : Operand) (t : TypeId)
    (ho : o.op = .call { callee := .builtin .append, args := #[s, x], argTypes := #[t, t] })
    (base : Nat) (e : TypeId) (i : TypeInfo) (z : Value) (size bytes : Nat) (ht : P.underlying t = some (.slice e)) (hi : P.info? e = some i) (hz : i.zero = some z)
    (hsize : i.size = size) (hby : i.bytes = bytes) (hzs : z.cells.size = size) (hsz : 0 < size)
    (v : Value) (n : Nat) (xs : List Value) (hs : a.eval s = v) (hown : w.ownsRow base e size v n xs)
    (ad : Addr) (m c : Nat) (news : List Value) (hx : a.eval x = .slice (some ad) m c) (hl : news.length = m * size) (hnews : ∀ j u, news[j]? = some u → w.cell? (ad.add j) = some u) (h1 : ∀ u ∈ news, u.oneCell' = true)
    (h63 : n + m ≤ maxLen) (hbytes : (n + m) * bytes ≤ 140737488355328) (hbase : base ≤ w.heap.size)
    (h : ∀ v' w', w'.ownsRow base e size v' (n + m) (xs ++ news) → w.grownBy w' v.ownBlock → (v'.ownBlock = v.ownBlock ∨ v'.ownBlock = some w.heap.size) → K (a.put o.dst v') w') :
    if Region.wanted o (yielded ops a.tmps) = true then Oper.wp P o a w K Q else E := by
  have hw : Region.wanted o (yielded ops a.tmps) = true := by simp [Region.wanted, hgd]
  rw [if_pos hw]
  obtain ⟨v', w', hr, h2, h3, _, h5⟩ := run_append_own_at (P := P) w base t o.type e i z size bytes ht hi hz hsize hby hzs hsz v n xs hown ad m c news hl hnews h1 h63 hbytes hbase
  unfold Oper.wp execOp
  simp only [ho, resolve, invoke, builtin, Sem.run_bind, Sem.run_pure, Result.andThen_ok, List.map_toArray, List.map_cons, List.map_nil, hs, hx, hr]
  exact h v' w' h2 h3 h5
end
end Go.Proofs.Ytkndfklbonkbiaa.lst
