/- Slices of slices that a call owns: the inner rows lie in blocks of their own, apart from each other. -/
import Derived.Test.YtkndfklbonkbiaaLst
import Derived.Test.YtkndfklbonkbiaaOwn
import Derived.Laws.OwnMore
namespace Go.Proofs.Ytkndfklbonkbiaa.rws
open Go.RowKit

/-- The slices us are rows of the call's own, apart from each other; row i holds rs[i]. -/
def Ins (B : Nat) (e : TypeId) (m : Nat) (W : World) (us : List Value) (rs : List (List Value)) : Prop :=
  us.length = rs.length ∧ (∀ (i : Nat) (u : Value) (r : List Value), us[i]? = some u → rs[i]? = some r → ∃ n, W.ownsRow B e m u n r) ∧
  ∀ (i j : Nat) (u u' : Value) (g : Nat), i < j → us[i]? = some u → us[j]? = some u' → u.ownBlock = some g → u'.ownBlock ≠ some g
section
variable {B : Nat} {e : TypeId} {m : Nat} {W W' : World} {us : List Value} {rs : List (List Value)}
theorem Ins.nil (B : Nat) (e : TypeId) (m : Nat) (W : World) : Ins B e m W [] [] := ⟨rfl, fun i u r h => by simp at h, fun i j u u' g _ h => by simp at h⟩
theorem Ins.at_ (h : Ins B e m W us rs) {i n : Nat} {r : List Value} (hr : rs[i]? = some r) (hm : 0 < m) (hn : r.length = n * m) : ∃ u, us[i]? = some u ∧ W.ownsRow B e m u n r := by
  have hl : i < us.length := by rw [h.1]; exact (List.getElem?_eq_some_iff.1 hr).1
  have hu := List.getElem?_eq_getElem hl
  obtain ⟨k, hk⟩ := h.2.1 i _ r hu hr
  have e1 : n * m = k * m := hn.symm.trans hk.1
  rw [Nat.eq_of_mul_eq_mul_right hm e1]
  exact ⟨_, hu, hk⟩
theorem Ins.row (h : Ins B e m W us rs) {i : Nat} {u : Value} (hu : us[i]? = some u) : ∃ n r, W.ownsRow B e m u n r := by
  have hl : i < rs.length := by rw [← h.1]; exact (List.getElem?_eq_some_iff.1 hu).1
  obtain ⟨k, hk⟩ := h.2.1 i u _ hu (List.getElem?_eq_getElem hl)
  exact ⟨k, _, hk⟩
theorem Ins.lt (h : Ins B e m W us rs) {i g : Nat} {u : Value} (hu : us[i]? = some u) (hg : u.ownBlock = some g) : g < W.heap.size := by
  obtain ⟨n, r, ho⟩ := h.row hu
  exact (ho.lt g hg).2
theorem Ins.ge (h : Ins B e m W us rs) {i g : Nat} {u : Value} (hu : us[i]? = some u) (hg : u.ownBlock = some g) : B ≤ g := by
  obtain ⟨n, r, ho⟩ := h.row hu
  exact (ho.lt g hg).1
theorem Ins.kept (h : Ins B e m W us rs) {b : Option Nat} (hg : W.grownBy W' b) (hb : ∀ (g : Nat) (i : Nat) (u : Value), b = some g → us[i]? = some u → u.ownBlock ≠ some g) : Ins B e m W' us rs :=
  ⟨h.1, fun i u r hu hr => by
    obtain ⟨n, ho⟩ := h.2.1 i u r hu hr
    refine ⟨n, ho.kept hg ?_⟩
    cases hv : u.ownBlock with
    | none => exact .inl rfl
    | some k => exact .inr (fun e => hb k i u e.symm hu hv), h.2.2⟩
theorem Ins.below (h : Ins B e m W us rs) (hb : Below W.heap.size W W') : Ins B e m W' us rs :=
  ⟨h.1, fun i u r hu hr => by
    obtain ⟨n, ho⟩ := h.2.1 i u r hu hr
    exact ⟨n, own_.own_below ho hb⟩, h.2.2⟩
theorem Ins.push (h : Ins B e m W us rs) {u : Value} {r : List Value} {n : Nat} (ho : W.ownsRow B e m u n r) (hne : ∀ (g : Nat) (i : Nat) (u' : Value), u.ownBlock = some g → us[i]? = some u' → u'.ownBlock ≠ some g) : Ins B e m W (us ++ [u]) (rs ++ [r]) := by
  refine ⟨by rw [List.length_append, List.length_append, h.1]; rfl, fun i u1 r1 hu hr => ?_, fun i j u1 u2 g hij hu1 hu2 hg => ?_⟩
  · rcases Nat.lt_or_ge i us.length with hi | hi
    · rw [List.getElem?_append_left hi] at hu
      rw [List.getElem?_append_left (by rw [← h.1]; exact hi)] at hr
      exact h.2.1 i u1 r1 hu hr
    · rw [List.getElem?_append_right hi] at hu
      rw [List.getElem?_append_right (by rw [← h.1]; exact hi)] at hr
      have e1 := List.mem_of_getElem? hu
      have e2 := List.mem_of_getElem? hr
      simp at e1 e2
      subst e1; subst e2
      exact ⟨n, ho⟩
  · rcases Nat.lt_or_ge j us.length with hj | hj
    · rw [List.getElem?_append_left hj] at hu2
      rw [List.getElem?_append_left (by omega)] at hu1
      exact h.2.2 i j u1 u2 g hij hu1 hu2 hg
    · have hjl := (List.getElem?_eq_some_iff.1 hu2).1
      simp at hjl
      rw [List.getElem?_append_right hj] at hu2
      have e1 := List.mem_of_getElem? hu2
      simp at e1
      subst e1
      rw [List.getElem?_append_left (by omega)] at hu1
      intro e
      exact hne g i u1 e hu1 hg
theorem Ins.set (h : Ins B e m W us rs) {i n : Nat} {u u' : Value} {r' : List Value} (hu : us[i]? = some u) (hg : W.grownBy W' u.ownBlock) (ho : W'.ownsRow B e m u' n r') (hv : u'.ownBlock = u.ownBlock ∨ u'.ownBlock = some W.heap.size) : Ins B e m W' (us.set i u') (rs.set i r') := by
  have hap : ∀ (j : Nat) (u1 : Value) (g : Nat), j ≠ i → us[j]? = some u1 → u1.ownBlock = some g → u.ownBlock ≠ some g := by
    intro j u1 g hj h1 h2
    rcases Nat.lt_or_ge j i with hji | hji
    · exact h.2.2 j i u1 u g hji h1 hu h2
    · intro e
      exact h.2.2 i j u u1 g (by omega) hu h1 e h2
  have hap' : ∀ (j : Nat) (u1 : Value) (g : Nat), j ≠ i → us[j]? = some u1 → u1.ownBlock = some g → u'.ownBlock ≠ some g := by
    intro j u1 g hj h1 h2
    rcases hv with hv | hv
    · rw [hv]; exact hap j u1 g hj h1 h2
    · rw [hv]
      intro e
      injection e with e
      have := h.lt h1 h2
      omega
  have hil := (List.getElem?_eq_some_iff.1 hu).1
  refine ⟨by rw [List.length_set, List.length_set, h.1], fun j u1 r1 h1 h2 => ?_, fun j k u1 u2 g hjk h1 h2 hb => ?_⟩
  · rw [List.getElem?_set] at h1 h2
    by_cases e : i = j
    · rw [if_pos e, if_pos (by omega)] at h1
      rw [if_pos e, if_pos (by rw [← h.1]; omega)] at h2
      injection h1 with h1
      injection h2 with h2
      subst h1; subst h2
      exact ⟨n, ho⟩
    · rw [if_neg e] at h1 h2
      obtain ⟨n1, ho1⟩ := h.2.1 j u1 r1 h1 h2
      refine ⟨n1, ho1.kept hg ?_⟩
      cases hvv : u1.ownBlock with
      | none => exact .inl rfl
      | some q => exact .inr (fun e' => hap j u1 q (fun e2 => e e2.symm) h1 hvv e'.symm)
  · rw [List.getElem?_set] at h1 h2
    by_cases e : i = j
    · rw [if_pos e, if_pos (by omega)] at h1
      rw [if_neg (by omega)] at h2
      injection h1 with h1
      subst h1
      intro e2
      exact hap' k u2 g (by omega) h2 e2 hb
    · rw [if_neg e] at h1
      by_cases e3 : i = k
      · rw [if_pos e3, if_pos (by omega)] at h2
        injection h2 with h2
        subst h2
        exact hap' j u1 g (by omega) h1 hb
      · rw [if_neg e3] at h2
        exact h.2.2 j k u1 u2 g hjk h1 h2 hb
end
/-- Rows of different types lie in different blocks. -/
theorem apart {W : World} {B B' m m' n n' : Nat} {e e' : TypeId} {u v : Value} {r r' : List Value} (h : W.ownsRow B e m u n r) (h' : W.ownsRow B' e' m' v n' r') (he : e ≠ e') {g : Nat} (hg : u.ownBlock = some g) : v.ownBlock ≠ some g := by
  intro hv
  rcases h.2 with ⟨rfl, _⟩ | ⟨g1, cap1, cur1, rfl, _, h1, _⟩
  · simp [Value.ownBlock] at hg
  · rcases h'.2 with ⟨rfl, _⟩ | ⟨g2, cap2, cur2, rfl, _, h2, _⟩
    · simp [Value.ownBlock] at hv
    · simp [Value.ownBlock] at hg hv
      subst hg
      subst hv
      rw [h1] at h2
      injection h2 with h2
      injection h2 with _ h2 _
      exact he h2
theorem Ins.apart {B B' m m' n' : Nat} {e e' : TypeId} {W : World} {us : List Value} {rs : List (List Value)} {v : Value} {r' : List Value} (h : Ins B e m W us rs) (h' : W.ownsRow B' e' m' v n' r') (he : e ≠ e') : ∀ (g : Nat) (i : Nat) (u : Value), v.ownBlock = some g → us[i]? = some u → u.ownBlock ≠ some g := by
  intro g i u hv hu hg
  obtain ⟨n, r, ho⟩ := h.row hu
  exact rws.apart ho h' he hg hv
/-- All of us are slices. -/
theorem Ins.one {B m : Nat} {e : TypeId} {W : World} {us : List Value} {rs : List (List Value)} (h : Ins B e m W us rs) : ∀ u ∈ us, u.oneCell' = true := by
  intro u hu
  obtain ⟨i, hi⟩ := List.mem_iff_getElem?.1 hu
  obtain ⟨n, r, ho⟩ := h.row hi
  obtain ⟨A, c, rfl⟩ := lst.own_sliceZ ho
  rfl

/-- A slice of slices of the call's own. -/
def Gr (B : Nat) (eo ei : TypeId) (m : Nat) (W : World) (v : Value) (rs : List (List Value)) : Prop := ∃ us, W.ownsRow B eo 1 v rs.length us ∧ Ins B ei m W us rs
section
variable {B : Nat} {eo ei : TypeId} {m : Nat} {W W' : World} {v : Value} {rs : List (List Value)}
theorem Gr.below (h : Gr B eo ei m W v rs) (hb : Below W.heap.size W W') : Gr B eo ei m W' v rs := by
  obtain ⟨us, h1, h2⟩ := h
  exact ⟨us, own_.own_below h1 hb, h2.below hb⟩
theorem Gr.nil (h : W.ownsRow B eo 1 v 0 []) : Gr B eo ei m W v [] := ⟨[], h, Ins.nil ..⟩
theorem Gr.slice (h : Gr B eo ei m W v rs) : ∃ A c, v = .slice A rs.length c := by
  obtain ⟨us, h1, _⟩ := h
  exact lst.own_sliceZ h1
theorem Gr.lt (h : Gr B eo ei m W v rs) : ∀ g, v.ownBlock = some g → B ≤ g ∧ g < W.heap.size := by
  obtain ⟨us, h1, _⟩ := h
  exact h1.lt
/-- Row i: its slice, which lies in the outer row. -/
theorem Gr.at_ (h : Gr B eo ei m W v rs) {i k : Nat} {r : List Value} (hr : rs[i]? = some r) (hm : 0 < m) (hk : r.length = k * m) :
    ∃ ob oc u, v = .slice (some ⟨ob, 0, none⟩) rs.length oc ∧ ob < W.heap.size ∧ B ≤ ob ∧ W.cell? ⟨ob, i, none⟩ = some u ∧ W.frozen? ⟨ob, i, none⟩ = false ∧ W.ownsRow B ei m u k r := by
  obtain ⟨us, h1, h2⟩ := h
  obtain ⟨u, hu, ho⟩ := h2.at_ hr hm hk
  have hl := (List.getElem?_eq_some_iff.1 hr).1
  rcases h1.2 with ⟨_, h0⟩ | ⟨g, cap, cur, hv, hB, hh, hc⟩
  · omega
  · subst hv
    exact ⟨g, cap, u, rfl, (h1.lt g rfl).2, hB, (h1.cellAt i (by omega)).trans hu, h1.frozenAt i, ho⟩
/-- Row i has grown, and its new slice is laid into the outer row. -/
theorem Gr.set_ (h : Gr B eo ei m W v rs) (he : ei ≠ eo) {i k : Nat} {ob oc : Nat} {u u' : Value} {r' : List Value} (hi : i < rs.length) (hv : v = .slice (some ⟨ob, 0, none⟩) rs.length oc) (hu : W.cell? ⟨ob, i, none⟩ = some u)
    (hg : W.grownBy W' u.ownBlock) (ho : W'.ownsRow B ei m u' k r') (hn : u'.ownBlock = u.ownBlock ∨ u'.ownBlock = some W.heap.size) : Gr B eo ei m (W'.setCell ⟨ob, i, none⟩ u') v (rs.set i r') := by
  obtain ⟨us, h1, h2⟩ := h
  subst hv
  have hus : us[i]? = some u := by rw [← h1.cellAt i (by omega)]; exact hu
  have h3 := h2.set hus hg ho hn
  obtain ⟨k0, r0, ho0⟩ := h2.row hus
  have h1' : W'.ownsRow B eo 1 (.slice (some ⟨ob, 0, none⟩) rs.length oc) rs.length us := h1.kept hg (.inr (fun e => apart ho0 h1 he e.symm rfl))
  obtain ⟨h4, h5⟩ := h1'.stored i u'
  refine ⟨us.set i u', by rw [List.length_set]; exact h4, h3.kept h5 fun g j w0 e hw hg0 => ?_⟩
  obtain ⟨k1, r1, ho1⟩ := h3.row hw
  exact apart ho1 h1' he hg0 e
/-- One row more. -/
theorem Gr.push_ {W0 : World} (h : Gr B eo ei m W0 v rs) (he : ei ≠ eo) (hb : Below W0.heap.size W0 W) {u v' : Value} {k : Nat} {r : List Value} (hu : W.ownsRow B ei m u k r) (hf : ∀ g, u.ownBlock = some g → W0.heap.size ≤ g)
    (hg : W.grownBy W' v.ownBlock) (ho : ∀ us, W.ownsRow B eo 1 v rs.length us → W'.ownsRow B eo 1 v' (rs.length + 1) (us ++ [u])) : Gr B eo ei m W' v' (rs ++ [r]) := by
  obtain ⟨us, h1, h2⟩ := h
  have h1' := own_.own_below h1 hb
  have h3 := (h2.below hb).push hu (fun g i u' e1 e2 e3 => by have := hf g e1; have := h2.lt e2 e3; omega)
  refine ⟨us ++ [u], by rw [List.length_append]; exact ho us h1', h3.kept hg fun g j w0 e hw hg0 => ?_⟩
  obtain ⟨k1, r1, ho1⟩ := h3.row hw
  exact apart ho1 h1' he hg0 e
end

theorem Gr.base {B B' : Nat} {eo ei : TypeId} {m : Nat} {W : World} {v : Value} {rs : List (List Value)} (h : Gr B' eo ei m W v rs) (hB : B ≤ B') : Gr B eo ei m W v rs := by
  obtain ⟨us, h1, h2, h3, h4⟩ := h
  exact ⟨us, own_.own_base h1 hB, h2, fun i u r hu hr => by
    obtain ⟨n, hn⟩ := h3 i u r hu hr
    exact ⟨n, own_.own_base hn hB⟩, h4⟩
/-- What grows a row of another type leaves all rows. -/
theorem Gr.kept {B B' : Nat} {eo ei e' : TypeId} {m m' n : Nat} {W W' : World} {v x : Value} {rs : List (List Value)} {r : List Value} (h : Gr B eo ei m W v rs) (hr : W.ownsRow B' e' m' x n r) (h1 : e' ≠ eo) (h2 : e' ≠ ei) (hg : W.grownBy W' x.ownBlock) : Gr B eo ei m W' v rs := by
  obtain ⟨us, h3, h4⟩ := h
  refine ⟨us, h3.kept hg ?_, h4.kept hg fun g i u e hu hb => ?_⟩
  · cases hv : v.ownBlock with
    | none => exact .inl rfl
    | some g => exact .inr (fun e => apart hr h3 h1 e.symm hv)
  · obtain ⟨k1, r1, ho1⟩ := h4.row hu
    exact apart hr ho1 h2 e hb
/-- A row of another type is as it was. -/
theorem kept_row {B B' : Nat} {e e' : TypeId} {m m' n n' : Nat} {W W' : World} {v x : Value} {r r' : List Value} (h : W.ownsRow B e m v n r) (hr : W.ownsRow B' e' m' x n' r') (h1 : e' ≠ e) (hg : W.grownBy W' x.ownBlock) : W'.ownsRow B e m v n r := by
  refine h.kept hg ?_
  cases hv : v.ownBlock with
  | none => exact .inl rfl
  | some g => exact .inr (fun e2 => apart hr h h1 e2.symm hv)
section
variable {P : Program}
/-- append onto a row of the call's own, also a nil one: which block the new slice lies in. -/
theorem wpList_append_any {w : World} {ops : Array Oper} {rest : List Oper} {o : Oper} {a : Act} {Q : Exit → Act → World → Prop} (hgd : o.guard = none) (s x : Operand) (t : TypeId)
    (ho : o.op = .call { callee := .builtin .append, args := #[s, x], argTypes := #[t, t] })
    (base : Nat) (e : TypeId) (i : TypeInfo) (z : Value) (size bytes : Nat) (ht : P.underlying t = some (.slice e)) (hi : P.info? e = some i) (hz : i.zero = some z)
    (hsize : i.size = size) (hby : i.bytes = bytes) (hzs : z.cells.size = size) (hsz : 0 < size)
    (v : Value) (n : Nat) (xs : List Value) (hs : a.eval s = v) (hown : w.ownsRow base e size v n xs)
    (ad : Addr) (m c : Nat) (news : List Value) (hx : a.eval x = .slice (some ad) m c) (hl : news.length = m * size) (hnews : ∀ j u, news[j]? = some u → w.cell? (ad.add j) = some u) (h1 : ∀ u ∈ news, u.oneCell' = true)
    (h63 : n + m ≤ maxLen) (hbytes : (n + m) * bytes ≤ 140737488355328) (hbase : base ≤ w.heap.size)
    (h : ∀ v' w', w'.ownsRow base e size v' (n + m) (xs ++ news) → w.grownBy w' v.ownBlock → (v'.ownBlock = v.ownBlock ∨ v'.ownBlock = some w.heap.size) → wpList P ops Q rest (a.put o.dst v') w') :
    wpList P ops Q (o :: rest) a w := by
  refine wpList_plain hgd fun K hK => ?_
  obtain ⟨v', w', hr, h2, h3, _, h5⟩ := run_append_own_at (P := P) w base t o.type e i z size bytes ht hi hz hsize hby hzs hsz v n xs hown ad m c news hl hnews h1 h63 hbytes hbase
  unfold Oper.wp
  simp only [execOp, ho, resolve, invoke, builtin, Sem.run_bind, Sem.run_pure, Result.andThen_ok, List.map_toArray, List.map_cons, List.map_nil, hs, hx, hr]
  exact hK _ _ (h v' w' h2 h3 h5)
end
end Go.Proofs.Ytkndfklbonkbiaa.rws
