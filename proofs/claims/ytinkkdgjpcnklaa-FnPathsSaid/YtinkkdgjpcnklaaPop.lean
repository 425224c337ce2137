/- bits.OnesCount64: the number of bits 1, for every word. -/
import Derived.Test.YtinkkdgjpcnklaaBin
import Derived.WalkKit
import Derived.IntWalk
import Derived.Laws.Entries
namespace Go.Proofs.Ytinkkdgjpcnklaa.pop_
open Go.RowKit Go.Proofs.Ytinkkdgjpcnklaa.bin

/-- And, of numbers. -/
theorem and_nat (x y : Nat) (hx : x < 18446744073709551616) (hy : y < 18446744073709551616) : bits .and .u64 (x : Int) (y : Int) = ((x &&& y : Nat) : Int) := by
  have e : bits .and .u64 (x : Int) (y : Int) = IntKind.u64.wrap ((BitVec.ofInt 64 (x : Int) &&& BitVec.ofInt 64 (y : Int)).toNat : Int) := rfl
  rw [e, BitVec.toNat_and, BitVec.ofInt_natCast, BitVec.ofInt_natCast, BitVec.toNat_ofNat, BitVec.toNat_ofNat, Nat.mod_eq_of_lt hx, Nat.mod_eq_of_lt hy]
  have := Nat.and_le_left (n := x) (m := y)
  exact IntWalk.u64_in _ (by omega)
theorem or_nat (x y : Nat) (hx : x < 18446744073709551616) (hy : y < 18446744073709551616) : bits .or .u64 (x : Int) (y : Int) = ((x ||| y : Nat) : Int) := by
  have e : bits .or .u64 (x : Int) (y : Int) = IntKind.u64.wrap ((BitVec.ofInt 64 (x : Int) ||| BitVec.ofInt 64 (y : Int)).toNat : Int) := rfl
  rw [e, BitVec.toNat_or, BitVec.ofInt_natCast, BitVec.ofInt_natCast, BitVec.toNat_ofNat, BitVec.toNat_ofNat, Nat.mod_eq_of_lt hx, Nat.mod_eq_of_lt hy]
  have := Nat.or_lt_two_pow (n := 64) hx hy
  exact IntWalk.u64_in _ (by omega)
theorem xor_nat (x y : Nat) (hx : x < 18446744073709551616) (hy : y < 18446744073709551616) : bits .xor .u64 (x : Int) (y : Int) = ((x ^^^ y : Nat) : Int) := by
  have e : bits .xor .u64 (x : Int) (y : Int) = IntKind.u64.wrap ((BitVec.ofInt 64 (x : Int) ^^^ BitVec.ofInt 64 (y : Int)).toNat : Int) := rfl
  rw [e, BitVec.toNat_xor, BitVec.ofInt_natCast, BitVec.ofInt_natCast, BitVec.toNat_ofNat, BitVec.toNat_ofNat, Nat.mod_eq_of_lt hx, Nat.mod_eq_of_lt hy]
  have := Nat.xor_lt_two_pow (n := 64) hx hy
  exact IntWalk.u64_in _ (by omega)
theorem and_nat_i (x y : Nat) (hx : x < 9223372036854775808) (hy : y < 9223372036854775808) : bits .and .i64 (x : Int) (y : Int) = ((x &&& y : Nat) : Int) := by
  have e : bits .and .i64 (x : Int) (y : Int) = IntKind.i64.wrap ((BitVec.ofInt 64 (x : Int) &&& BitVec.ofInt 64 (y : Int)).toNat : Int) := rfl
  rw [e, BitVec.toNat_and, BitVec.ofInt_natCast, BitVec.ofInt_natCast, BitVec.toNat_ofNat, BitVec.toNat_ofNat, Nat.mod_eq_of_lt (by omega), Nat.mod_eq_of_lt (by omega)]
  have := Nat.and_le_left (n := x) (m := y)
  exact IntWalk.i64_in _ (by omega)

/-- Go's six steps, as the walk leaves them. -/
def g1 (x : Int) : Int := IntKind.u64.wrap (bits .and .u64 (x / 2) 6148914691236517205 + bits .and .u64 x 6148914691236517205)
def g2 (x : Int) : Int := IntKind.u64.wrap (bits .and .u64 (x / 4) 3689348814741910323 + bits .and .u64 x 3689348814741910323)
def g3 (x : Int) : Int := bits .and .u64 (IntKind.u64.wrap (x / 16 + x)) 1085102592571150095
def g4 (x : Int) : Int := IntKind.u64.wrap (x + x / 256)
def g5 (x : Int) : Int := IntKind.u64.wrap (x + x / 65536)
def g6 (x : Int) : Int := IntKind.u64.wrap (x + x / 4294967296)

/-- The same steps on n bytes. -/
def rep : Nat → Nat
  | 0 => 0
  | n + 1 => 256 * rep n + 1
theorem rep_succ (n : Nat) : rep (n + 1) = 256 * rep n + 1 := rfl
def s1 (n x : Nat) : Nat := ((x / 2) &&& (85 * rep n)) + (x &&& (85 * rep n))
def s2 (n x : Nat) : Nat := ((x / 4) &&& (51 * rep n)) + (x &&& (51 * rep n))
def s3 (n x : Nat) : Nat := (x / 16 + x) &&& (15 * rep n)

theorem and_split (a b c d : Nat) (ha : a < 256) (hc : c < 256) : (256 * b + a) &&& (256 * d + c) = 256 * (b &&& d) + (a &&& c) := by
  have h1 := Nat.and_mod_two_pow (a := 256 * b + a) (b := 256 * d + c) (n := 8)
  have h2 := Nat.and_div_two_pow (a := 256 * b + a) (b := 256 * d + c) (n := 8)
  rw [show (2 : Nat) ^ 8 = 256 from rfl] at h1 h2
  rw [show (256 * b + a) % 256 = a by omega, show (256 * d + c) % 256 = c by omega] at h1
  rw [show (256 * b + a) / 256 = b by omega, show (256 * d + c) / 256 = d by omega] at h2
  omega

theorem b1 : ∀ p : Fin 2, ∀ a : Fin 256, (128 * p.val + a.val / 2) &&& 85 = (a.val / 2) &&& 85 := by decide +kernel
theorem b2 : ∀ p : Fin 4, ∀ a : Fin 256, (64 * p.val + a.val / 4) &&& 51 = (a.val / 4) &&& 51 := by decide +kernel
theorem c1 : ∀ a : Fin 256, ((a.val / 2) &&& 85) + (a.val &&& 85) < 256 := by decide +kernel
theorem c2 : ∀ a : Fin 256, ((a.val / 4) &&& 51) + (a.val &&& 51) < 256 := by decide +kernel

theorem s1_step (n a b : Nat) (ha : a < 256) : s1 (n + 1) (256 * b + a) = 256 * s1 n b + s1 1 a := by
  have hb := b1 ⟨b % 2, by omega⟩ ⟨a, ha⟩
  simp only at hb
  unfold s1
  rw [show 85 * rep (n + 1) = 256 * (85 * rep n) + 85 by rw [rep_succ]; omega, show 85 * rep 1 = 85 from rfl,
    show (256 * b + a) / 2 = 256 * (b / 2) + (128 * (b % 2) + a / 2) by omega, and_split _ _ _ _ (by omega) (by omega), and_split _ _ _ _ ha (by omega), hb]
  omega
theorem s2_step (n a b : Nat) (ha : a < 256) : s2 (n + 1) (256 * b + a) = 256 * s2 n b + s2 1 a := by
  have hb := b2 ⟨b % 4, by omega⟩ ⟨a, ha⟩
  simp only at hb
  unfold s2
  rw [show 51 * rep (n + 1) = 256 * (51 * rep n) + 51 by rw [rep_succ]; omega, show 51 * rep 1 = 51 from rfl,
    show (256 * b + a) / 4 = 256 * (b / 4) + (64 * (b % 4) + a / 4) by omega, and_split _ _ _ _ (by omega) (by omega), and_split _ _ _ _ ha (by omega), hb]
  omega
/-- Of bytes whose halves are at most 4. -/
theorem b3 : ∀ p : Fin 5, ∀ q : Fin 5, ∀ r : Fin 5, (16 * p.val + (16 * q.val + r.val) / 16 + (16 * q.val + r.val)) &&& 15 = q.val + r.val := by decide +kernel
theorem s3_step (n q r b : Nat) (hq : q ≤ 4) (hr : r ≤ 4) (hb : b % 16 ≤ 4) : s3 (n + 1) (256 * b + (16 * q + r)) = 256 * s3 n b + (q + r) := by
  have h := b3 ⟨b % 16, by omega⟩ ⟨q, by omega⟩ ⟨r, by omega⟩
  simp only at h
  unfold s3
  rw [show 15 * rep (n + 1) = 256 * (15 * rep n) + 15 by rw [rep_succ]; omega,
    show (256 * b + (16 * q + r)) / 16 + (256 * b + (16 * q + r)) = 256 * (b / 16 + b) + (16 * (b % 16) + (16 * q + r) / 16 + (16 * q + r)) by omega,
    and_split _ _ _ _ (by omega) (by omega), h]

/-- A byte after two steps: the counts of its halves. -/
theorem byte2 : ∀ a : Fin 256, s2 1 (s1 1 a.val) = 16 * pc 4 (a.val / 16) + pc 4 a.val ∧ pc 4 (a.val / 16) ≤ 4 ∧ pc 4 a.val ≤ 4 ∧ pc 4 (a.val / 16) + pc 4 a.val = pc 8 a.val := by decide +kernel
theorem s1_small (a : Nat) (ha : a < 256) : s1 1 a < 256 := c1 ⟨a, ha⟩

/-- The counts of the bytes, as bytes. -/
def cnt : Nat → Nat → Nat
  | 0, _ => 0
  | n + 1, x => 256 * cnt n (x / 256) + pc 8 (x % 256)

theorem two (n x : Nat) : s2 (n + 1) (s1 (n + 1) x) = 256 * s2 n (s1 n (x / 256)) + s2 1 (s1 1 (x % 256)) := by
  have h : x = 256 * (x / 256) + x % 256 := by omega
  conv => lhs; rw [h]
  rw [s1_step n _ _ (by omega), s2_step n _ _ (s1_small _ (by omega))]
theorem low (n x : Nat) : s2 n (s1 n x) % 16 ≤ 4 := by
  cases n with
  | zero => simp [s2, rep]
  | succ n =>
    rw [two]
    obtain ⟨h1, h2, h3, _⟩ := byte2 ⟨x % 256, by omega⟩
    simp only at h1 h2 h3
    rw [h1]
    omega
theorem three : ∀ n x, s3 n (s2 n (s1 n x)) = cnt n x
  | 0, x => by simp [s3, rep, cnt]
  | n + 1, x => by
    rw [two]
    obtain ⟨h1, h2, h3, h4⟩ := byte2 ⟨x % 256, by omega⟩
    simp only at h1 h2 h3 h4
    rw [h1, s3_step n _ _ _ h2 h3 (low _ _), three n, h4]
    rfl

theorem big2 : ∀ n x, s2 n (s1 n x) ≤ 68 * rep n
  | 0, x => by simp [s2, rep]
  | n + 1, x => by
    rw [two, rep_succ]
    obtain ⟨h1, h2, h3, h4⟩ := byte2 ⟨x % 256, by omega⟩
    simp only at h1 h2 h3
    have := big2 n (x / 256)
    omega
theorem rep8 : rep 8 = 72340172838076673 := by decide
theorem big1 (x : Nat) : s1 8 x ≤ 170 * rep 8 := by
  unfold s1
  rw [rep8]
  have h1 := Nat.and_le_right (n := x / 2) (m := 85 * 72340172838076673)
  have h2 := Nat.and_le_right (n := x) (m := 85 * 72340172838076673)
  omega
theorem pc_le : ∀ k v, pc k v ≤ k
  | 0, _ => Nat.le_refl _
  | k + 1, v => by rw [pc]; have := pc_le k (v / 2); omega

theorem eight (c0 c1 c2 c3 c4 c5 c6 c7 y : Nat) (h0 : c0 ≤ 8) (h1 : c1 ≤ 8) (h2 : c2 ≤ 8) (h3 : c3 ≤ 8) (h4 : c4 ≤ 8) (h5 : c5 ≤ 8) (h6 : c6 ≤ 8) (h7 : c7 ≤ 8)
    (hy : y = 256 * (256 * (256 * (256 * (256 * (256 * (256 * (256 * 0 + c7) + c6) + c5) + c4) + c3) + c2) + c1) + c0) :
    ∃ z4 z5 z6, z4 = y + y / 256 ∧ z5 = z4 + z4 / 65536 ∧ z6 = z5 + z5 / 4294967296 ∧ z6 < 9223372036854775808 ∧ z6 % 128 = c0 + c1 + c2 + c3 + c4 + c5 + c6 + c7 := by
  refine ⟨_, _, _, rfl, rfl, rfl, ?_⟩
  obtain ⟨y7, e7⟩ : ∃ n, n = 256 * 0 + c7 := ⟨_, rfl⟩
  rw [← e7] at hy
  obtain ⟨y6, e6⟩ : ∃ n, n = 256 * y7 + c6 := ⟨_, rfl⟩
  rw [← e6] at hy
  obtain ⟨y5, e5⟩ : ∃ n, n = 256 * y6 + c5 := ⟨_, rfl⟩
  rw [← e5] at hy
  obtain ⟨y4, e4⟩ : ∃ n, n = 256 * y5 + c4 := ⟨_, rfl⟩
  rw [← e4] at hy
  obtain ⟨y3, e3⟩ : ∃ n, n = 256 * y4 + c3 := ⟨_, rfl⟩
  rw [← e3] at hy
  obtain ⟨y2, e2⟩ : ∃ n, n = 256 * y3 + c2 := ⟨_, rfl⟩
  rw [← e2] at hy
  obtain ⟨y1, e1⟩ : ∃ n, n = 256 * y2 + c1 := ⟨_, rfl⟩
  rw [← e1] at hy
  have f1 : y / 256 = y1 := by clear e1 e2 e3 e4 e5 e6 e7; omega
  rw [f1]
  have f2 : (y + y1) / 65536 = y2 + y3 := by
    have : y + y1 = 65536 * (y2 + y3) + (256 * (c1 + c2) + (c0 + c1)) := by clear e3 e4 e5 e6 e7; omega
    rw [this]
    clear e1 e2 e3 e4 e5 e6 e7 this f1 hy
    omega
  rw [f2]
  have g4 : y = 4294967296 * y4 + (16777216 * c3 + 65536 * c2 + 256 * c1 + c0) := by clear e4 e5 e6 e7; omega
  have g5 : y1 = 4294967296 * y5 + (16777216 * c4 + 65536 * c3 + 256 * c2 + c1) := by clear e5 e6 e7 hy g4; omega
  have g6 : y2 = 4294967296 * y6 + (16777216 * c5 + 65536 * c4 + 256 * c3 + c2) := by clear e1 e6 e7 hy g4 g5; omega
  have g7 : y3 = 4294967296 * y7 + (16777216 * c6 + 65536 * c5 + 256 * c4 + c3) := by clear e1 e2 e7 hy g4 g5 g6; omega
  have f3 : (y + y1 + (y2 + y3)) / 4294967296 = y4 + y5 + (y6 + y7) := by
    have : y + y1 + (y2 + y3) = 4294967296 * (y4 + y5 + (y6 + y7)) + (16777216 * (c3 + c4 + c5 + c6) + 65536 * (c2 + c3 + c4 + c5) + 256 * (c1 + c2 + c3 + c4) + (c0 + c1 + c2 + c3)) := by
      clear e1 e2 e3 e4 e5 e6 e7 hy f1 f2
      omega
    rw [this]
    clear e1 e2 e3 e4 e5 e6 e7 this f1 f2 hy g4 g5 g6 g7
    omega
  rw [f3]
  clear f1 f2 f3 g4 g5 g6 g7
  have b6 : y6 ≤ 5000 := by omega
  have b4 : y4 ≤ 500000000 := by omega
  have b2 : y2 ≤ 50000000000000 := by clear e7 e6 e5 e4 e1 hy; omega
  have b0 : y ≤ 4000000000000000000 := by clear e7 e6 e5 e4 e3 e2; omega
  refine ⟨by omega, ?_⟩
  clear b6 b4 b2 b0
  have m : y + y1 + (y2 + y3) + (y4 + y5 + (y6 + y7)) = 128 * (2 * (y1 + y2 + y3 + y4 + y5 + y6 + y7)) + (c0 + c1 + c2 + c3 + c4 + c5 + c6 + c7) := by omega
  rw [m]
  clear m e1 e2 e3 e4 e5 e6 e7 hy
  omega

theorem steps (x : Nat) (hx : x < 18446744073709551616) : ∃ y1 y2 y3 z4 z5 z6 : Nat, g1 (x : Int) = (y1 : Int) ∧ g2 (y1 : Int) = (y2 : Int) ∧ g3 (y2 : Int) = (y3 : Int) ∧ g4 (y3 : Int) = (z4 : Int) ∧ g5 (z4 : Int) = (z5 : Int) ∧ g6 (z5 : Int) = (z6 : Int)
    ∧ IntKind.i64.wrap (z6 : Int) = (z6 : Int) ∧ bits .and .i64 (z6 : Int) 127 = (pc 64 x : Int) := by
  have hm1 : (85 * rep 8 : Nat) = 6148914691236517205 := by decide
  have hm2 : (51 * rep 8 : Nat) = 3689348814741910323 := by decide
  have hm3 : (15 * rep 8 : Nat) = 1085102592571150095 := by decide
  have e1 : g1 (x : Int) = (s1 8 x : Int) := by
    have hb := big1 x
    have a1 := and_nat (x / 2) 6148914691236517205 (by omega) (by omega)
    have a2 := and_nat x 6148914691236517205 (by omega) (by omega)
    rw [rep8] at hb
    unfold s1 at hb ⊢
    rw [hm1] at hb ⊢
    unfold g1
    rw [show ((x : Int) / 2) = ((x / 2 : Nat) : Int) by omega]
    rw [show (6148914691236517205 : Int) = ((6148914691236517205 : Nat) : Int) from rfl, a1, a2]
    exact (IntWalk.u64_in _ (by omega)).trans (by omega)
  have e2 : g2 (s1 8 x : Int) = (s2 8 (s1 8 x) : Int) := by
    have hb := big2 8 x
    have hb1 := big1 x
    rw [rep8] at hb hb1
    generalize s1 8 x = y at *
    have a1 := and_nat (y / 4) 3689348814741910323 (by omega) (by omega)
    have a2 := and_nat y 3689348814741910323 (by omega) (by omega)
    unfold s2 at hb ⊢
    rw [hm2] at hb ⊢
    unfold g2
    rw [show ((y : Int) / 4) = ((y / 4 : Nat) : Int) by omega]
    rw [show (3689348814741910323 : Int) = ((3689348814741910323 : Nat) : Int) from rfl, a1, a2]
    exact (IntWalk.u64_in _ (by omega)).trans (by omega)
  have e3 : g3 (s2 8 (s1 8 x) : Int) = (cnt 8 x : Int) := by
    have hb := big2 8 x
    rw [rep8] at hb
    rw [← three]
    generalize s2 8 (s1 8 x) = y at *
    have a1 := and_nat (y / 16 + y) 1085102592571150095 (by omega) (by omega)
    unfold s3
    rw [hm3]
    unfold g3
    rw [IntWalk.u64_in _ (by omega), show ((y : Int) / 16 + (y : Int)) = ((y / 16 + y : Nat) : Int) by omega]
    rw [show (1085102592571150095 : Int) = ((1085102592571150095 : Nat) : Int) from rfl, a1]
  suffices hh : ∃ z4 z5 z6 : Nat, g4 (cnt 8 x : Int) = (z4 : Int) ∧ g5 (z4 : Int) = (z5 : Int) ∧ g6 (z5 : Int) = (z6 : Int) ∧ IntKind.i64.wrap (z6 : Int) = (z6 : Int) ∧ bits .and .i64 (z6 : Int) 127 = (pc 64 x : Int) by
    obtain ⟨z4, z5, z6, hh⟩ := hh
    exact ⟨_, _, _, z4, z5, z6, e1, e2, e3, hh⟩
  have hp : pc 64 x = pc 8 (x % 256) + pc 8 (x / 256 % 256) + pc 8 (x / 256 / 256 % 256) + pc 8 (x / 256 / 256 / 256 % 256) + pc 8 (x / 256 / 256 / 256 / 256 % 256)
      + pc 8 (x / 256 / 256 / 256 / 256 / 256 % 256) + pc 8 (x / 256 / 256 / 256 / 256 / 256 / 256 % 256) + pc 8 (x / 256 / 256 / 256 / 256 / 256 / 256 / 256 % 256) := by
    have hs := fun k v => pc_add k 8 v
    have hq := fun v => pc_mod 8 v
    rw [show (2 : Nat) ^ 8 = 256 from rfl] at hs hq
    rw [hs 56 x, hs 48, hs 40, hs 32, hs 24, hs 16, hs 8, hq, hq, hq, hq, hq, hq, hq, hq]
    omega
  rw [hp]
  have hc := fun v => pc_le 8 v
  obtain ⟨z4, z5, z6, r4, r5, r6, hz, hs⟩ := eight _ _ _ _ _ _ _ _ (cnt 8 x) (hc (x % 256)) (hc (x / 256 % 256)) (hc (x / 256 / 256 % 256)) (hc (x / 256 / 256 / 256 % 256)) (hc (x / 256 / 256 / 256 / 256 % 256))
      (hc (x / 256 / 256 / 256 / 256 / 256 % 256)) (hc (x / 256 / 256 / 256 / 256 / 256 / 256 % 256)) (hc (x / 256 / 256 / 256 / 256 / 256 / 256 / 256 % 256)) rfl
  rw [← hs]
  clear hs hp hc e1 e2 e3
  refine ⟨z4, z5, z6, ?_⟩
  generalize cnt 8 x = y at *
  have f4 : g4 (y : Int) = (z4 : Int) := by
    unfold g4
    exact (IntWalk.u64_in _ (by omega)).trans (by omega)
  have f5 : g5 (z4 : Int) = (z5 : Int) := by
    unfold g5
    exact (IntWalk.u64_in _ (by omega)).trans (by omega)
  have f6 : g6 (z5 : Int) = (z6 : Int) := by
    unfold g6
    exact (IntWalk.u64_in _ (by omega)).trans (by omega)
  refine ⟨f4, f5, f6, IntWalk.i64_in _ (by omega), ?_⟩
  have a := and_nat_i z6 127 (by omega) (by omega)
  rw [show (127 : Int) = ((127 : Nat) : Int) from rfl, a, show (127 : Nat) = 2 ^ 7 - 1 from rfl, Nat.and_two_pow_sub_one_eq_mod]

end Go.Proofs.Ytinkkdgjpcnklaa.pop_
