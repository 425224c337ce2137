/- impl.SplitString at every string and separator. -/
import Derived.Test.YtedocpocfpopgaaDoorIter
import Derived.RangeFuncNested
namespace Go.Proofs.YtedocpocfpopgaaDoor.splitimpl
open Go.RowKit Go.Shelf Go.Proofs.YtedocpocfpopgaaDoor.split_ Go.Proofs.YtedocpocfpopgaaDoor.iter

attribute [local go_sem] Oper.semAt_some

theorem infoStr : (Tryd.prog.info? 9).map (fun i => (i.zero, i.size, i.bytes)) = some (some (.string ⟨#[]⟩), 1, 16) := by kernel_rfl

theorem impl_no (s sep : ByteArray) (w : World) (h : 4000 < (s.size : Int) ∨ ((sep.size : Int) == 1) = false) :
    Calls Tryd.prog 88 #[.string s, .string sep] w fun e w' => e = .returned (.tuple #[.slice none 0 0, .bool false]) ∧ w = w' := by
  by_cases h1 : 4000 < (s.size : Int)
  · clear h
    go_enter Tryd.func88, Tryd.ntmps88
    go_wp2
    go_ret2
    exact ⟨rfl, rfl⟩
  · have h2 : ((sep.size : Int) == 1) = false := h.resolve_left h1
    have h3 : ((sep.size : Int) != 1) = true := by rw [bne, h2]; rfl
    clear h
    go_enter Tryd.func88, Tryd.ntmps88
    go_wp2
    go_ret2
    exact ⟨rfl, rfl⟩

set_option maxRecDepth 100000 in
set_option maxHeartbeats 2000000 in
theorem impl_in (s sep : ByteArray) (w : World) (h : (s.size : Int) ≤ 4000) (h0 : 0 < sep.size) (h1 : ((sep.size : Int) == 1) = true) :
    CallsIn Fence.wide 3 Tryd.prog 88 #[.string s, .string sep] w fun e W' => ∃ (v : Value) (xs : List ByteArray), e = .returned (.tuple #[v, .bool true]) ∧ W'.ownsRow w.heap.size 9 1 v xs.length (xs.map Value.string) ∧ Below w.heap.size w W' ∧ xs.map (·.data.toList) = pieces sep[0] s.data.toList [] := by
  obtain ⟨i0, hi, hz0, hz1, hz2⟩ := info_parts infoStr
  have h3 : ((sep.size : Int) != 1) = false := by rw [bne, h1]; rfl
  clear h1
  have hd : decide ((4000 : Int) < (s.size : Int)) = false := by simpa using h
  have hall := all_in (3 - 1) s sep[0]
  generalize hbb : sep[0] = b at hall
  refine callsIn_of_wp_marks Tryd.func88 rfl trivial ?_ rfl
  simp only [Tryd.ntmps88, List.size_toArray, List.length_cons, List.length_nil, Nat.reduceAdd, Nat.reduceSub, Array.replicate_succ, Array.replicate_zero, List.push_toArray, List.append_toArray, List.nil_append, List.cons_append]
  gi_wp2_with (refine ⟨trivial, ?_⟩; gi_at_call 108; refine (hall _).mono ?_; rintro e w' ⟨rfl, rfl⟩)
  have bO := Boxed.new w 76 (.slice none 0 0)
  have bS := Boxed.new (w.alloc (.cells #[.slice none 0 0] 76)) 9 (.string s)
  have bB := Boxed.new ((w.alloc (.cells #[.slice none 0 0] 76)).alloc (.cells #[.string s] 9)) 5 (.int .u8 b.toNat)
  simp only [World.size_alloc] at bS bB
  have hB0 : Below w.heap.size w (((w.alloc (.cells #[.slice none 0 0] 76)).alloc (.cells #[.string s] 9)).alloc (.cells #[.int .u8 b.toNat] 5)) := (((Below.refl _ w).alloc (Nat.le_refl _) _).alloc (by simp) _).alloc (by simp; omega) _
  have hlen := pieces_length b s.data.toList []
  have hsl : s.data.toList.length = s.size := by simp [← ByteArray.size_data]
  have hN : (pieces b s.data.toList []).length ≤ 4001 := by omega
  refine wpIn_rangeFunc_ownG rfl (by omega) (gf := 119) (lb := #[.pointer (some ⟨w.heap.size + 1, 0, none⟩), .pointer (some ⟨w.heap.size + 1 + 1, 0, none⟩)]) rfl trivial (enters_of Tryd.func119 (by kernel_rfl) rfl)
    (all_stops (3 - 1) (by omega) (w.heap.size + 1) (w.heap.size + 1 + 1) s b (by omega) _ (bS.alloc _) bB) kp_t (kp_b (by simp) (by simp)) (Below.refl _ _) (fun _ => rfl)
    (fun pre W => (∃ v, Boxed W w.heap.size 76 v ∧ W.ownsRow (w.heap.size + 3) 9 1 v pre.length (pre.map Value.string) ∧ True) ∧ Below w.heap.size w W ∧ Boxed W (w.heap.size + 1 + 1) 5 (.int .u8 b.toNat))
    (fun _ _ _ => False)
    (OwnFrom.and (Own.from (holdsRow_own (w.heap.size + 3) w.heap.size 76 9 1 (fun pre : List ByteArray => pre.length) (fun pre => pre.map Value.string) (fun _ _ => True)) _) (OwnFrom.and (ownFrom_below (Nat.le_refl _) (by simp; omega)) (Own.from (boxed_own (w.heap.size + 1 + 1) 5 (fun _ => Value.int .u8 b.toNat)) _)))
    (fun _ _ _ _ _ hs _ _ => hs)
    ⟨⟨_, (bO.alloc _).alloc _, World.ownsRow_nil _ _ _ _, trivial⟩, hB0, bB⟩
    (fun x => { tmps := #[.string s, .string sep, undef, undef, .slice none 0 0, .bool false, .pointer (some ⟨w.heap.size, 0, none⟩), .string x, .string s, .int .i64 s.size, .bool false, .bool false, .string sep, .int .i64 sep.size, .bool false, .bool false, .string s, .string sep, .int .u8 b.toNat, .func (.func 119) #[] #[.pointer (some ⟨w.heap.size + 1, 0, none⟩), .pointer (some ⟨w.heap.size + 1 + 1, 0, none⟩)], .string x, undef, undef, undef, undef, undef], defers := [] }) ?assign ?body ?done ?stop
  case assign =>
    intro l x W K hK
    gi_wp2
    exact hK
  case body =>
    rintro l pre x W ⟨⟨v, hv, hrow, _⟩, hB, hbx⟩ hlt
    have hc := hv.cell
    have hsz := hB.size
    have hbl := hbx.lt
    have hrg := own_.row_ge hrow
    gi_wp2_with (gi_at_builtin; refine wpListIn_append_own _ rfl _ _ 76 rfl (w.heap.size + 3) 9 i0 (.string ⟨#[]⟩) 1 16 Tryd.underlying76 hi hz0 hz1 hz2 rfl (by decide) _ _ _ rfl (hrow.alloc _) ⟨W.heap.size, 0, none⟩ 1 1 [.string x] rfl rfl (cell_one_new _ _ _) (by simp [Value.oneCell']) (by unfold maxLen; omega) (by omega) (by simp; omega) ?_; intro v' w1 hown' hgrow _; obtain ⟨g', cap', rfl⟩ := ownsRow_succ hown'; obtain ⟨hv1, hv2, hr2, hk2, hb2⟩ := hv.appended (n₀ := w.heap.size) (by decide) (own_.own_base hrow (by omega)) hsz (Nat.le_refl _) (own_.own_base hown' (by omega)) hgrow; have hc1 := hv1.cell; have hf1 := hv1.frozen)
    have hr3 := ownsRow_setCell_below hown' (a := ⟨w.heap.size, 0, none⟩) (by simp) (.slice (some ⟨g', 0, none⟩) (pre.length + 1) cap')
    have hk : Kp (w.heap.size + 1) (w.heap.size + 1 + 1) W (w1.setCell ⟨w.heap.size, 0, none⟩ (.slice (some ⟨g', 0, none⟩) (pre.length + 1) cap')) := by
      refine ⟨?_, ?_⟩
      · refine (Below.heap_setCell _ _ _ _ (by simp)).trans ((hgrow.block _ (by simp; omega) (fun e => by have := hrg _ e.symm; omega)).trans (Below.heap_alloc _ _ _ (by omega)))
      · refine (Below.heap_setCell _ _ _ _ (by simp; omega)).trans ((hgrow.block _ (by simp; omega) (fun e => by have := hrg _ e.symm; omega)).trans (Below.heap_alloc _ _ _ (by omega)))
    exact ⟨hk2.from _, hk, ⟨_, hv2, by simpa using hr3, trivial⟩, hB.trans hb2, hk.box2 hbx⟩
  case done =>
    rintro D ys W hD hys ⟨⟨v, hv, hrow, _⟩, hB, hbx⟩ hK
    have hc := hv.cell
    gi_wp2
    refine ⟨by simp, .inl ⟨_, _, rfl, run_takeDeferred hK, ?_⟩⟩
    refine ⟨_, results_tmp2 rfl _ _ _, v, ys, rfl, own_.own_base (ownsRow_putObj hrow _ hK rfl) (by omega), hB.trans (belowK_b (w := w) (Nat.le_refl _) W D _ _ (by simp at hD; omega) hK rfl rfl), ?_⟩
    exact hys
  case stop =>
    rintro D c pre W _ _ h _
    exact h.elim

theorem impl_yes (s sep : ByteArray) (w : World) (h : (s.size : Int) ≤ 4000) (h0 : 0 < sep.size) (h1 : ((sep.size : Int) == 1) = true) :
    Calls Tryd.prog 88 #[.string s, .string sep] w fun e W' => ∃ (v : Value) (xs : List ByteArray), e = .returned (.tuple #[v, .bool true]) ∧ W'.ownsRow w.heap.size 9 1 v xs.length (xs.map Value.string) ∧ Below w.heap.size w W' ∧ xs.map (·.data.toList) = pieces sep[0] s.data.toList [] :=
  (callsIn_wide (n := 3)).1 (impl_in s sep w h h0 h1)
end Go.Proofs.YtedocpocfpopgaaDoor.splitimpl
