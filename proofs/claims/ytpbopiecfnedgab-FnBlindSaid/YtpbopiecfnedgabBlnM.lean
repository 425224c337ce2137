/- m[k]++ on a map of the call's own: the look-up before and behind the entry, and the store through the entry. -/
import Derived.WideKeyEntry
import Derived.Maps.Own
import Derived.Maps.Views
namespace Go.Proofs.Ytpbopiecfnedgab.blnm
open Go.WideElems Go.MapKept Go.ChangeMaps Go.RowKit
open Go.WideMaps (KeyLaw)

theorem tup_first {a b c d : Value} (h : Value.tuple #[a, b] = .tuple #[c, d]) : a = c := by
  injection h with h
  have := congrArg (fun x : Array Value => x.toList) h
  simpa using (List.cons.inj this).1
theorem setBlock_twice {w : World} {b : Nat} {o1 o2 : Obj} : setBlock (setBlock w b o1) b o2 = setBlock w b o2 := by
  simp [setBlock]

theorem map_below {H : Type} {P : Program} {k : TypeId} {R : Value → Option (DataW H × List MemPlace)} {w w' : World} {B b n : Nat} {D : DataW H} (h : w.ownsMap P k R b n D) (hb : Below B w w') (hlt : b < B) : w'.ownsMap P k R b n D := by
  obtain ⟨es, clock, h1, F, hs, hD⟩ := h
  exact ⟨es, clock, (hb.block b hlt).trans h1, F, hs, hD⟩

theorem entry3 {H : Type} {P : Program} {w : World} {t k e : TypeId} {b n : Nat} {D : DataW H} (K : KeyLaw P k) (ht : P.underlying t = some (.map k e)) (he : P.underlying e = some (.int .i64)) (hz : ∀ u : World, (zeroValue e).run P u = .ok (.int .i64 0) u)
    (h : w.ownsMap P k (plainElem P e) b n D) (hn : n < maxLen) {key : Value} {kl : Lit} (hkey : keyOf P k key = some kl) :
    ∃ (c : Int) (st : Nat) (m1 : Obj), D.atKey kl (.lit (.int .i64 0)) = .lit (.int .i64 c) ∧ (Lit.int .i64 c).wf = true ∧
      (Instr.lookup t (.map (some b)) key false).run P w = .ok (.int .i64 c) w ∧
      (Instr.mapEntry t (.map (some b)) key).run P w = .ok (.tuple #[.int .i64 c, goInt st]) (setBlock w b m1) ∧
      (Instr.lookup t (.map (some b)) key false).run P (setBlock w b m1) = .ok (.int .i64 c) (setBlock w b m1) ∧
      ∀ val : Int, (Lit.int .i64 val).wf = true → ∃ W', (Instr.entryStore t (.map (some b)) (goInt st) (.int .i64 val)).run P (setBlock w b m1) = .ok () W' ∧ W'.ownsMap P k (plainElem P e) b (n + 1) (D.put kl (.lit (.int .i64 val))) ∧ w.grownBy W' (some b) := by
  obtain ⟨c, hl, hat, hwc⟩ := h.lookup_int (Maps.Keyed.of_law K) ht he (hz w) hkey
  have hup := fun (val : Int) (hw : (Lit.int .i64 val).wf = true) => h.update (Maps.Keyed.of_law K) ht hn hkey (plainElem_int he hw)
  obtain ⟨es, clock, hb, F, hs, hD⟩ := h
  obtain ⟨v0, st, es1, clock1, hme, hv0, hst⟩ := entry_then_store K ht hz hb F hkey
  have hb1 : (setBlock w b (.map es1 clock1)).heap[b]? = some (.map es1 clock1) := heap_setBlock_same hb _
  have hboth : v0 = .int .i64 c ∧ (Instr.lookup t (.map (some b)) key false).run P (setBlock w b (.map es1 clock1)) = .ok (.int .i64 c) (setBlock w b (.map es1 clock1)) := by
    rcases K.find w hkey es.toList F.keys with ⟨h1, h2⟩ | ⟨j, e0, h1, h2, h3⟩
    · have e1 : (Instr.mapEntry t (.map (some b)) key).run P w = .ok (.tuple #[.int .i64 0, goInt clock]) (setBlock w b (.map (es.push ⟨key, .int .i64 0, clock⟩) (clock + 1))) := by
        simp [Instr.mapEntry, run_underlying ht, MapKept.run_getObj_map hb, K.check w false hkey, h1, hz, MapKept.run_setObj_map _ hb, Result.andThen, setBlock]
      have e2 : (Instr.lookup t (.map (some b)) key false).run P w = .ok (.int .i64 0) w := by
        simp [Instr.lookup, run_underlying ht, MapKept.run_getObj_map hb, K.check w _ hkey, h1, hz, Result.andThen]
      rw [hl] at e2
      injection e2 with e2 _
      injection e2 with _ e2
      subst e2
      rw [hme] at e1
      injection e1 with e1 e3
      have e4 : (setBlock w b (.map es1 clock1)).heap[b]? = some (.map (es.push ⟨key, .int .i64 0, clock⟩) (clock + 1)) := by rw [e3]; exact heap_setBlock_same hb _
      rw [hb1] at e4
      injection e4 with e4
      injection e4 with e4 e5
      refine ⟨tup_first e1, ?_⟩
      have hks : ∀ x ∈ es1.toList, ∃ l, keyOf P k x.key = some l := by
        intro x hx
        rw [e4, Array.toList_push, List.mem_append, List.mem_singleton] at hx
        rcases hx with hx | rfl
        · exact F.keys x hx
        · exact ⟨kl, hkey⟩
      rcases K.find (setBlock w b (.map es1 clock1)) hkey es1.toList hks with ⟨_, g2⟩ | ⟨j, e', g1, g2, g3⟩
      · exact absurd rfl (g2 ⟨key, .int .i64 0, clock⟩ (by rw [e4, Array.toList_push]; exact List.mem_append_right _ (List.mem_singleton.2 rfl)))
      · have hm : e' ∈ es1.toList := List.mem_of_getElem? g2
        rw [e4, Array.toList_push, List.mem_append, List.mem_singleton] at hm
        have hv : e'.val = .int .i64 0 := by
          rcases hm with hm | rfl
          · exact absurd g3 (h2 e' hm)
          · rfl
        simp [Instr.lookup, run_underlying ht, MapKept.run_getObj_map hb1, K.check (setBlock w b (.map es1 clock1)) _ hkey, g1, hv, Result.andThen]
    · have hj : es[j]? = some e0 := by simpa using h2
      have hsame : es.modify j (fun e => { e with key := key }) = es := by
        apply Array.ext'
        rw [Array.toList_modify, modify_eq_set _ _ _ _ h2]
        have : ({ e0 with key := key } : MapEntry) = e0 := by rw [← h3]
        rw [this]
        exact set_self _ _ _ h2
      have e1 : (Instr.mapEntry t (.map (some b)) key).run P w = .ok (.tuple #[e0.val, goInt e0.born]) (setBlock w b (.map es clock)) := by
        simp [Instr.mapEntry, run_underlying ht, MapKept.run_getObj_map hb, K.check w false hkey, h1, hj, h3, K.stays w hkey, hsame, MapKept.run_setObj_map _ hb, Result.andThen, setBlock]
      have e2 : (Instr.lookup t (.map (some b)) key false).run P w = .ok e0.val w := by
        simp [Instr.lookup, run_underlying ht, MapKept.run_getObj_map hb, K.check w _ hkey, h1, Result.andThen]
      rw [hl] at e2
      injection e2 with e2 _
      rw [hme] at e1
      injection e1 with e1 e3
      have e4 : (setBlock w b (.map es1 clock1)).heap[b]? = some (.map es clock) := by rw [e3]; exact heap_setBlock_same hb _
      rw [hb1] at e4
      injection e4 with e4
      injection e4 with e4 e5
      refine ⟨by rw [e2]; exact tup_first e1, ?_⟩
      rcases K.find (setBlock w b (.map es1 clock1)) hkey es1.toList (by rw [e4]; exact F.keys) with ⟨_, g2⟩ | ⟨j', e', g1, g2, g3⟩
      · exact absurd h3 (g2 e0 (by rw [e4]; exact List.mem_of_getElem? h2))
      · rw [e4] at g2
        have hv : e'.val = .int .i64 c := by
          by_cases hjj : j = j'
          · subst hjj
            rw [h2] at g2
            rw [← Option.some.inj g2, e2]
          · exact absurd (g3.trans h3.symm) (other_key F h2 g2 (fun e => hjj (by first | exact e | exact e.symm)))
        simp [Instr.lookup, run_underlying ht, MapKept.run_getObj_map hb1, K.check (setBlock w b (.map es1 clock1)) _ hkey, g1, hv, Result.andThen]
  exact ⟨c, st, .map es1 clock1, hat, hwc, hl, by rw [hme, hboth.1], hboth.2, fun val hw => by
    obtain ⟨es', clock', hr1, hr2⟩ := hst _ (.int .i64 val) hb1
    obtain ⟨W', hr3, ho, hg⟩ := hup val hw
    rw [hr2] at hr3
    injection hr3 with _ hW
    exact ⟨W', by rw [hr1, setBlock_twice, hW], ho, hg⟩⟩

theorem grown_setBlock {w : World} {b : Nat} {o' : Obj} : w.grownBy (setBlock w b o') (some b) :=
  ⟨rfl, rfl, rfl, by simp [setBlock], fun i _ hi => by
    have : b ≠ i := fun e => hi (by rw [e])
    simp [setBlock, this]⟩
end Go.Proofs.Ytpbopiecfnedgab.blnm
