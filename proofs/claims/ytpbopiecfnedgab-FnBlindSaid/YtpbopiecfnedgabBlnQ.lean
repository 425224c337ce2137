/- impl.BlindPoints: a map from keys to counts, filled at every point, and a range over it. -/
import Derived.Test.YtpbopiecfnedgabBlnJ
import Derived.Test.YtpbopiecfnedgabBlnR
import Derived.Test.YtpbopiecfnedgabLocI
namespace Go.Proofs.Ytpbopiecfnedgab.blnq
open Go.RowKit Go.Proofs.Ytpbopiecfnedgab.ints Go.Proofs.Ytpbopiecfnedgab.lst Go.Proofs.Ytpbopiecfnedgab.ats Go.Proofs.Ytpbopiecfnedgab.intc Go.Proofs.Ytpbopiecfnedgab.sit Go.Proofs.Ytpbopiecfnedgab.loc Go.Proofs.Ytpbopiecfnedgab.bln Go.Proofs.Ytpbopiecfnedgab.blni Go.Proofs.Ytpbopiecfnedgab.blnp Go.Proofs.Ytpbopiecfnedgab.blnr
open Go.Maps (Keyed)

set_option maxRecDepth 100000 in
theorem everyBlind (g1 g2 : Nat) (Inv : Nat → World → Prop) (hstep : ∀ k, k < 961 → ∀ W, Inv k W → Calls Try.prog 79 #[.agg #[.int .i64 (pX k), .int .i64 (pY k)], .pointer (some ⟨g1, 0, none⟩), .pointer (some ⟨g2, 0, none⟩)] W fun e w' => e = .returned (.tuple #[]) ∧ Inv (k + 1) w') (w : World) (h0 : Inv 0 w) :
    Calls Try.prog 72 #[.func (.func 79) #[] #[.pointer (some ⟨g1, 0, none⟩), .pointer (some ⟨g2, 0, none⟩)]] w fun e w' => e = .returned (.tuple #[]) ∧ Inv 961 w' := by
  have HS := Lib.hid (fun (x y : Nat) (hx : x < 31) (hy : y < 31) W (h : Inv (y * 31 + x) W) => (show Calls Try.prog 79 #[.agg #[.int .i64 (x : Int), .int .i64 (y : Int)], .pointer (some ⟨g1, 0, none⟩), .pointer (some ⟨g2, 0, none⟩)] W fun e w' => e = .returned (.tuple #[]) ∧ Inv (y * 31 + (x + 1)) w' from by
    have hq := p_row (y := y) hx
    have := hstep (y * 31 + x) (by omega) W h
    rw [hq.1, hq.2] at this
    exact this))
  have H0 := Lib.hid h0
  clear hstep h0
  go_enter Try.func72, Try.ntmps72
  go_wp2_with fail
  go_loopw [4] (fun i wr => ∃ y : Nat, y ≤ 31 ∧ i = .int .i64 y ∧ Inv (y * 31) wr) (fun i _ => 31 - (intOf i).toNat)
  case atStart => exact ⟨0, by omega, rfl, H0.out⟩
  case round =>
    obtain ⟨y, hy, rfl, hinv⟩ := hrel
    clear H0
    have HI := Lib.hid hinv
    clear hinv
    by_cases hlt : y < 31
    · have hlt2 : (y : Int) < 31 := by omega
      go_wp2_with fail
      go_loopw [7] (fun i wr => ∃ x : Nat, x ≤ 31 ∧ i = .int .i64 x ∧ Inv (y * 31 + x) wr) (fun i _ => 31 - (intOf i).toNat)
      case atStart => exact ⟨0, by omega, rfl, HI.out⟩
      case round =>
        obtain ⟨x, hx, rfl, hinv⟩ := hrel
        clear HI
        by_cases hxt : x < 31
        · have hxt2 : (x : Int) < 31 := by omega
          have C := Lib.hid (HS.out x y hxt hlt wr hinv)
          clear hinv
          go_wp2_with fail
          refine C.out.mono ?_
          rintro e w2 ⟨rfl, hinv⟩
          have HI := Lib.hid hinv
          clear hinv C
          go_wp2_with fail
          go_roundw
          case rel => exact ⟨x + 1, by omega, by go_num, HI.out⟩
          case measure => simp [intOf]; omega
        · obtain rfl : x = 31 := by omega
          have HI := Lib.hid hinv
          have HK := Lib.hid (show (y + 1) * 31 = y * 31 + 31 by omega)
          clear hinv
          go_wp2_with fail
          go_roundw
          case rel => exact ⟨y + 1, by omega, by go_num, by rw [HK.out]; exact HI.out⟩
          case measure => simp [intOf]; omega
    · obtain rfl : y = 31 := by omega
      go_wp2_with fail
      go_end0
      exact ⟨rfl, HI.out⟩

/-- What BlindPoints holds when k points have been counted. -/
def Inv (zs : List Int) (n c g1 g2 b : Nat) (A : Option Addr) (w : World) (k : Nat) (W : World) : Prop :=
  AtS 85 #[.map (some b)] w W g1 ∧ AtS 29 #[.slice A n c] w W g2 ∧ ∃ D : DataW Unit, World.ownsMap W Try.prog 86 (plainElem Try.prog 3) b k D ∧ DI zs n D k

theorem step (zs : List Int) (n c g1 g2 b : Nat) (A : Option Addr) (w : World) (hn0 : 0 < n) (hn5 : n ≤ 5) (hon : onT zs n = true) (h1 : RdZ 2 w w.heap.size A n zs) (hb : w.heap.size ≤ b) (k : Nat) (hk : k < 961) (W : World) (h : Inv zs n c g1 g2 b A w k W) :
    Calls Try.prog 79 #[.agg #[.int .i64 (pX k), .int .i64 (pY k)], .pointer (some ⟨g1, 0, none⟩), .pointer (some ⟨g2, 0, none⟩)] W fun e w' => e = .returned (.tuple #[]) ∧ Inv zs n c g1 g2 b A w (k + 1) w' := by
  obtain ⟨a1, a2, D, hm, hD⟩ := h
  obtain ⟨kl, hkl⟩ := key_of hon hn0 hk
  have hle := cF_le (k5 zs n) (k5 zs n k) k
  refine (blnj.closure law5 zs (pX k) (pY k) A n c g1 g2 b k _ w W D kl hn0 hn5 hon (p_on hk) h1 a1 a2 hm (by omega) hkl hb (hD.2.1 k kl hkl) (by omega) (by omega)).mono ?_
  rintro e w' ⟨rfl, b1, b2, hm'⟩
  exact ⟨rfl, b1, b2, _, hm', hD.step hkl⟩

set_option maxRecDepth 100000 in
set_option maxHeartbeats 4000000 in
theorem blindI (zs : List Int) (A : Option Addr) (n c : Nat) (w : World) (hc : n ≤ c) (hn : n ≤ 1048577) (h1 : RdZ 2 w w.heap.size A n zs) :
    Calls Try.prog 35 #[.slice A n c] w fun e w' => e = .returned (.tuple #[.int .i64 (blV zs n), .bool (siB zs n)]) ∧ Below w.heap.size w w' := by
  have hmm := @run_makeMap Try.prog
  have G := Lib.hid (fun W (hb : Below w.heap.size w W) => siti.isValidSites zs A n c W hc hn (h1.next hb))
  have X0 := Lib.hid (newS 29 #[.slice A n c] w)
  cases hs : siB zs n
  · rw [hs] at G
    have HV := Lib.hid (blV_no hs)
    clear hs h1
    go_enter Try.func35, Try.ntmps35
    go_upto_region 1 with fail
    generalize w.alloc (.cells #[.slice A n c] 29) = W0 at *
    have c0 := X0.out.cell 0
    go_upto_region 2 with fail
    refine (G.out W0 X0.out.1).mono ?_
    rintro e w1 ⟨rfl, hb⟩
    have HB := Lib.hid (X0.out.1.trans (hb.mono X0.out.1.size))
    clear hb c0
    go_wp2_with fail
    go_ret2
    exact ⟨by rw [HV.out]; rfl, HB.out⟩
  rw [hs] at G
  have HV := Lib.hid (blV_yes hs)
  obtain ⟨hn1, hn5, hon, -⟩ := siB_yes hs
  have HON := Lib.hid hon
  have H1 := Lib.hid h1
  clear hs h1 hon
  go_enter Try.func35, Try.ntmps35
  go_upto_region 1 with fail
  generalize w.alloc (.cells #[.slice A n c] 29) = W0 at *
  have c0 := X0.out.cell 0
  go_upto_region 2 with fail
  refine (G.out W0 X0.out.1).mono ?_
  rintro e w1 ⟨rfl, hb⟩
  have X1 := Lib.hid (X0.out.old hb)
  have hlt := X0.out.2.2.1
  have hle := hb.size
  clear hb c0
  go_upto_region 4 with fail
  have a1 : AtS 85 #[.map (some w1.heap.size)] w ((w1.alloc (.map #[] 0)).alloc (.cells #[.map (some w1.heap.size)] 85)) (w1.heap.size + 1) := by
    have := (X1.out.alloc (.map #[] 0)).next 85 #[.map (some w1.heap.size)]
    rw [World.size_alloc] at this
    exact this
  have i0 : Inv zs n c (w1.heap.size + 1) w.heap.size w1.heap.size A w 0 ((w1.alloc (.map #[] 0)).alloc (.cells #[.map (some w1.heap.size)] 85)) :=
    ⟨a1, (X1.out.alloc _).alloc _, .map [], (World.ownsMap_made w1 Try.prog 86 (plainElem Try.prog 3)).alloc _, DI.zero zs n⟩
  have EB := Lib.hid (everyBlind (w1.heap.size + 1) w.heap.size (Inv zs n c (w1.heap.size + 1) w.heap.size w1.heap.size A w) (fun k hk W h => step zs n c _ _ _ A w (by omega) hn5 HON.out H1.out (by omega) k hk W h) _ i0)
  clear i0 a1 X1 X0
  generalize (w1.alloc (.map #[] 0)).alloc (.cells #[.map (some w1.heap.size)] 85) = W2 at *
  go_upto_region 5 with fail
  refine EB.out.mono ?_
  rintro e W3 ⟨rfl, a1, a2, D, hm, hD⟩
  generalize hbb : w1.heap.size = b at *
  have hbw : w.heap.size ≤ b := by omega
  have HB := Lib.hid a1.1
  have hDI := Lib.hid hD
  have HM := Lib.hid hm
  have c1 := a1.cell 0
  clear a1 a2 hD hm EB
  go_wp2_with (first | (at_range; refine wpList_range_own _ rfl _ 85 rfl 86 3 law Try.underlying85 _ b 961 D rfl HM.out ?_; intro W4 hrg hg4 hs4) | fail)
  go_frame
  have HR0 := Lib.hid hrg
  have HB4 := Lib.hid (HB.out.grown (hg4.but none) HB.out.size (fun k e => by cases e))
  have hrB : w.heap.size ≤ W3.heap.size := HB.out.size
  clear hrg hg4 hs4 c1 HB HM
  generalize W3.heap.size = r at *
  go_loopw [5] (fun v wr => ∃ left cnt S, wr.ranges Try.prog 86 (plainElem Try.prog 3) b r 961 D left cnt ∧ RL zs n D left S ∧ v = .int .i64 ((sumF (k5 zs n) 961 S : Nat) : Int) ∧ Below w.heap.size w wr) (fun _ wr => wr.rangeLeft b r)
  case atStart => exact ⟨_, _, [], HR0.out, RL.start hDI.out, rfl, HB4.out⟩
  case round =>
    obtain ⟨left, cnt, S, hrg, hrl, rfl, hbw2⟩ := hrel
    have HB5 := Lib.hid hbw2
    have HRL := Lib.hid hrl
    have hmeas := hrg.left_eq
    clear hbw2 hrl HR0 HB4
    go_upto_region 7 with fail
    refine wp_region_lit ?_
    refine wpList_next_ranges _ rfl _ rfl 86 law (plainElem Try.prog 3) id (Value.int .i64) (fun key kl _ => ⟨key, rfl⟩) (fun v y h => by obtain ⟨a, rfl, _⟩ := plainElem_int_inv Try.underlying3 h; exact ⟨a, rfl⟩) b r 961 D left cnt rfl hrg ?_ ?_
    · intro _ hl0
      have HF := Lib.hid (show blV zs n = ((sumF (k5 zs n) 961 S : Nat) : Int) from by rw [HV.out, RL.all HON.out (by omega) hn5 HRL.out hl0])
      generalize sumF (k5 zs n) 961 S = s at *
      go_wp2_with fail
      go_ret2
      exact ⟨by rw [HF.out]; rfl, HB5.out⟩
    · intro x cv kl y wn cnt' hkey hlk hv hat hrg' hlt' hgn hsn hen
      obtain ⟨k, hk, hck, hrl'⟩ := HRL.out.next hDI.out hlk
      obtain ⟨a, ea, ey, _⟩ := plainElem_int_inv Try.underlying3 hv
      injection ea with _ ea
      subst ea
      have hcv := hat (.lit (.int .i64 0))
      rw [hck, ey] at hcv
      injection hcv with hcv
      injection hcv with _ hcv
      subst hcv
      have HRG := Lib.hid hrg'
      have HRL' := Lib.hid hrl'
      have HBN := Lib.hid (HB5.out.grown hgn HB5.out.size (fun k e => by cases e; exact hrB))
      have hm2 := hrg'.left_eq
      have hle := RL.le hrl'
      have HSUM := Lib.hid (show sumF (k5 zs n) 961 (k5 zs n k :: S) = gF (k5 zs n) 961 (k5 zs n k) + sumF (k5 zs n) 961 S from rfl)
      rw [HSUM.out] at hle
      unfold gF at hle HSUM
      clear hrg hrg' hrl' hkey hlk hv hat hck ey hgn hsn
      generalize cF (k5 zs n) (k5 zs n k) 961 = cc at *
      generalize sumF (k5 zs n) 961 S = s at *
      by_cases hc1 : 1 < cc
      · have hc2 : (1 : Int) < (cc : Int) := by omega
        rw [if_pos hc1] at hle HSUM
        have hw : IntKind.i64.wrap ((s : Int) + (cc : Int)) = (s : Int) + (cc : Int) := IntWalk.i64_in _ (by omega)
        go_wp2_with fail
        go_roundw
        case rel => exact ⟨_, cnt', _, HRG.out, HRL'.out, by rw [HSUM.out, Int.natCast_add, Int.add_comm], HBN.out⟩
        case measure => rw [hm2, hmeas]; omega
      · have hc2 : ¬ (1 : Int) < (cc : Int) := by omega
        rw [if_neg hc1] at hle HSUM
        go_wp2_with fail
        go_roundw
        case rel => exact ⟨_, cnt', _, HRG.out, HRL'.out, by rw [HSUM.out, Nat.zero_add], HBN.out⟩
        case measure => rw [hm2, hmeas]; omega
end Go.Proofs.Ytpbopiecfnedgab.blnq
