/- Mathematics of FnArrivals: the arrivals of a point are possible, its first Site and its send times. -/
import Derived.Test.YtpbopiecfnedgabLocG
import Derived.Test.YtpbopiecfnedgabSitS
namespace Go.Proofs.Ytpbopiecfnedgab.locq
open Go.Proofs.Ytpbopiecfnedgab.in_ Go.Proofs.Ytpbopiecfnedgab.lst Go.Proofs.Ytpbopiecfnedgab.sit Go.Proofs.Ytpbopiecfnedgab.sits Go.Proofs.Ytpbopiecfnedgab.loc Go.Proofs.Ytpbopiecfnedgab.locg

theorem paT_of {zs xs : List Int} {n : Nat} (h : ∀ i, i < n → ∀ k, k < n → apB zs xs i k = true) : paT zs xs n = true := by
  have ha : ∀ i, i < n → ∀ m, m ≤ n → apT zs xs i m = true := by
    intro i hi m
    induction m with
    | zero => intro _; rfl
    | succ m ih => intro hm; rw [apT, ih (by omega), h i hi m (by omega)]; rfl
  have : ∀ m, m ≤ n → paT zs xs m = true := by
    intro m
    induction m with
    | zero => intro _; rfl
    | succ m ih => intro hm; rw [paT, ih (by omega), ha m (by omega) m (by omega)]; rfl
  exact this n (Nat.le_refl _)
theorem av_pa {zs : List Int} {n : Nat} {x y t : Int} (h : avB zs n x y t = true) : paV zs n (avV zs n x y t) (avV zs n x y t).length = true := by
  unfold paV
  rw [av_ar h, paT_of (fun i hi k hk => by
    unfold apB
    refine decide_eq_true ?_
    rw [av_getD h hi, av_getD h hk]
    have := dist_tri (fld 2 zs i 0) (fld 2 zs i 1) (fld 2 zs k 0) (fld 2 zs k 1) x y
    unfold ds
    omega)]
  rfl
theorem av_fh {zs : List Int} {n : Nat} {x y t : Int} (h : avB zs n x y t = true) : ∃ f : Nat, fhV zs n (avV zs n x y t) (avV zs n x y t).length = (f : Int) ∧ f < n ∧ ∀ k, k < n → (avV zs n x y t).getD f 0 ≤ (avV zs n x y t).getD k 0 := by
  have hn := (siB_yes (avB_yes h).1).1
  refine ⟨fhT (avV zs n x y t) (n - 1), by unfold fhV; rw [av_ar h]; rfl, ?_, fun k hk => fhT_min (by omega)⟩
  have := fhT_le (avV zs n x y t) (n - 1)
  omega
/-- What FnArrivals asks of the arrivals of a point. -/
theorem av_law {zs : List Int} {n : Nat} {x y t : Int} (h : avB zs n x y t = true) :
    (stV zs n (avV zs n x y t) (avV zs n x y t).length x y).length = n ∧ ∀ k, k < n → sdB (fld 2 zs k 0) (fld 2 zs k 1) x y = true ∧ sdV (fld 2 zs k 0) (fld 2 zs k 1) x y = ds zs x y k ∧ (stV zs n (avV zs n x y t) (avV zs n x y t).length x y)[k]? = some t ∧ (avV zs n x y t)[k]? = some (t + ds zs x y k) ∧ 0 ≤ ds zs x y k ∧ ds zs x y k ≤ 60 := by
  obtain ⟨h1, h2, h3, h4⟩ := avB_yes h
  have hst := stV_yes (av_stB h)
  refine ⟨by rw [hst, stT_length], fun k hk => ?_⟩
  have e : sdB (fld 2 zs k 0) (fld 2 zs k 1) x y = true := by unfold sdB; rw [onT_at (siB_yes h1).2.2.1 hk, h2]; rfl
  have hd := ds_in (siB_yes h1).2.2.1 hk h2
  refine ⟨e, by unfold sdV; rw [e]; rfl, ?_, by rw [avV_yes h, avT_at hk], hd.1, hd.2⟩
  rw [hst, stT_at hk, av_getD h hk]
  congr 1; omega
end Go.Proofs.Ytpbopiecfnedgab.locq
