/- Names in six-bit letters, in plain mathematics: the codes, the bits of a name, the name of bits. -/
import Derived.Test.YtjfhkbpkiblkmaaDoorGood
namespace Go.Proofs.YtjfhkbpkiblkmaaDoor.nam
open Go.RowKit Go.Proofs.YtjfhkbpkiblkmaaDoor.bin Go.Proofs.YtjfhkbpkiblkmaaDoor.good_

def ltr (c : UInt8) : Bool := decide (65 ≤ c.toNat ∧ c.toNat ≤ 90)
def dig (c : UInt8) : Bool := decide (48 ≤ c.toNat ∧ c.toNat ≤ 57)
/-- A byte of a name. -/
def nc (c : UInt8) : Bool := ltr c || dig c
/-- A byte with a code; its code, or 0. -/
def cc (c : UInt8) : Bool := nc c || decide (c.toNat = 32)
def cv (c : UInt8) : Nat := if ltr c then c.toNat - 64 else if cc c then c.toNat else 0
/-- The byte with a code, or 0. -/
def lo (n : Nat) : Nat := if 1 ≤ n ∧ n ≤ 26 then n + 64 else if (48 ≤ n ∧ n ≤ 57) ∨ n = 32 then n else 0
def lob (n : Nat) : UInt8 := UInt8.ofNat (lo n)
theorem lo_le (n : Nat) : lo n ≤ 90 := by unfold lo; split <;> (try split) <;> omega
theorem lo_big {n : Nat} (h : 63 < n) : lo n = 0 := by unfold lo; rw [if_neg (by omega), if_neg (by omega)]
theorem lob_toNat (n : Nat) : (lob n).toNat = lo n := by
  have := lo_le n
  unfold lob; rw [UInt8.toNat_ofNat']; omega

theorem cv_fin : ∀ n : Fin 256, cv (UInt8.ofNat n.val) < 64 ∧ (cc (UInt8.ofNat n.val) = true → lo (cv (UInt8.ofNat n.val)) = n.val) ∧ (cc (UInt8.ofNat n.val) = false → cv (UInt8.ofNat n.val) = 0) := by decide +kernel
theorem cv_lt (c : UInt8) : cv c < 64 := by
  have := (cv_fin ⟨c.toNat, c.toNat_lt⟩).1
  simpa only [UInt8.ofNat_toNat] using this
theorem lo_cv {c : UInt8} (h : cc c = true) : lo (cv c) = c.toNat := by
  have := (cv_fin ⟨c.toNat, c.toNat_lt⟩).2.1
  simp only [UInt8.ofNat_toNat] at this
  exact this h
theorem lob_cv {c : UInt8} (h : cc c = true) : lob (cv c) = c := UInt8.toNat_inj.1 (by rw [lob_toNat, lo_cv h])
theorem cc_nc {c : UInt8} (h : nc c = true) : cc c = true := by unfold cc; rw [h]; rfl
theorem cc_sp : cc 32 = true := by decide
theorem nc_pos {c : UInt8} (h : nc c = true) : 0 < c.toNat ∧ c ≠ 32 := by
  refine ⟨?_, ?_⟩
  · unfold nc ltr dig at h; simp at h; omega
  · rintro rfl; revert h; decide

/-- The byte i of a name with spaces behind it. -/
def pd (l : List UInt8) (i : Nat) : UInt8 := l.getD i 32
def nbL (l : List UInt8) : Nat → List UInt8
  | 0 => []
  | k + 1 => nbL l k ++ enc 2 6 (cv (pd l k))
def nmL (l : List UInt8) : Bool := decide (1 ≤ l.length ∧ l.length ≤ 8) && l.all nc
theorem nbL_length (l : List UInt8) : ∀ k, (nbL l k).length = 6 * k
  | 0 => rfl
  | k + 1 => by rw [nbL, List.length_append, nbL_length l k, enc_length]; omega
theorem nbL_ok (l : List UInt8) : ∀ k, ok 2 (nbL l k) = true
  | 0 => rfl
  | k + 1 => by rw [nbL, ok_app, nbL_ok l k, ok_enc 2 (by omega) (by omega)]; rfl
theorem nm_len {l : List UInt8} (h : nmL l = true) : 1 ≤ l.length ∧ l.length ≤ 8 := by unfold nmL at h; simp at h; omega
theorem nm_all {l : List UInt8} (h : nmL l = true) : ∀ c ∈ l, nc c = true := by unfold nmL at h; simp at h; exact h.2
theorem pd_in {l : List UInt8} {k : Nat} (hk : k < l.length) : pd l k = l[k] := by unfold pd; rw [List.getD_eq_getElem?_getD, List.getElem?_eq_getElem hk]; rfl
theorem pd_out {l : List UInt8} {k : Nat} (hk : l.length ≤ k) : pd l k = 32 := by unfold pd; rw [List.getD_eq_getElem?_getD, List.getElem?_eq_none hk]; rfl
theorem pd_cc {l : List UInt8} (h : nmL l = true) (k : Nat) : cc (pd l k) = true := by
  rcases Nat.lt_or_ge k l.length with hk | hk
  · rw [pd_in hk]; exact cc_nc (nm_all h _ (List.getElem_mem hk))
  · rw [pd_out hk]; exact cc_sp

/-- The six bits from 6 k on; the byte that they stand for. -/
def gp (b : List UInt8) (k : Nat) : List UInt8 := (b.drop (6 * k)).take 6
def lt (b : List UInt8) (k : Nat) : UInt8 := lob (dec 2 (gp b k))
theorem gp_app {b c : List UInt8} {k : Nat} (h : 6 * k + 6 ≤ b.length) : gp (b ++ c) k = gp b k := by
  unfold gp
  rw [List.drop_append_of_le_length (by omega), List.take_append_of_le_length (by rw [List.length_drop]; omega)]
theorem gp_nb (l : List UInt8) (k : Nat) : ∀ n, k < n → gp (nbL l n) k = enc 2 6 (cv (pd l k))
  | 0, h => absurd h (Nat.not_lt_zero _)
  | n + 1, h => by
    rw [nbL]
    rcases Nat.lt_or_ge k n with h1 | h1
    · rw [gp_app (by rw [nbL_length]; omega), gp_nb l k n h1]
    · obtain rfl : k = n := by omega
      unfold gp
      rw [List.drop_append, nbL_length, Nat.sub_self, List.drop_zero, List.drop_eq_nil_of_le (by rw [nbL_length]; omega), List.nil_append]
      exact List.take_of_length_le (by rw [enc_length]; omega)
theorem lt_nb {l : List UInt8} (h : nmL l = true) {k : Nat} (hk : k < 8) : lt (nbL l 8) k = pd l k := by
  unfold lt
  rw [gp_nb l k 8 hk, dec_enc 2 (by omega) (by omega) 6 _ (by have := cv_lt (pd l k); omega), lob_cv (pd_cc h k)]

/-- The bytes of k groups that are no spaces. -/
def keep (c : UInt8) : Bool := decide (0 < c.toNat) && decide (c.toNat ≠ 32)
def pnL (b : List UInt8) : Nat → List UInt8
  | 0 => []
  | k + 1 => if keep (lt b k) then pnL b k ++ [lt b k] else pnL b k
theorem pnL_le (b : List UInt8) : ∀ k, (pnL b k).length ≤ k
  | 0 => Nat.le_refl _
  | k + 1 => by
    have := pnL_le b k
    rw [pnL]; split
    · rw [List.length_append]; exact Nat.succ_le_succ this
    · omega
theorem keep_nc {c : UInt8} (h : nc c = true) : keep c = true := by
  obtain ⟨h1, h2⟩ := nc_pos h
  have h3 : c.toNat ≠ 32 := fun e => h2 (UInt8.toNat_inj.1 e)
  unfold keep
  rw [decide_eq_true h1, decide_eq_true h3]; rfl
theorem keep_sp : keep 32 = false := by decide
theorem pn_nb {l : List UInt8} (h : nmL l = true) : ∀ k, k ≤ 8 → pnL (nbL l 8) k = l.take k
  | 0, _ => by simp [pnL]
  | k + 1, hk => by
    rw [pnL, lt_nb h (by omega), pn_nb h k (by omega)]
    rcases Nat.lt_or_ge k l.length with h1 | h1
    · rw [pd_in h1, keep_nc (nm_all h _ (List.getElem_mem h1)), if_pos rfl, List.take_succ_eq_append_getElem h1]
    · rw [pd_out h1, keep_sp, if_neg (by decide), List.take_of_length_le h1, List.take_of_length_le (by omega)]
theorem pn_all {l : List UInt8} (h : nmL l = true) : pnL (nbL l 8) 8 = l := by rw [pn_nb h 8 (Nat.le_refl _)]; exact List.take_of_length_le (nm_len h).2

/-- Is there a name with these bits? -/
def pnB (b : List UInt8) : Bool := ok 2 b && decide (b.length = 48) && nmL (pnL b 8) && decide (nbL (pnL b 8) 8 = b)
theorem pn_yes {b : List UInt8} (h : pnB b = true) : ok 2 b = true ∧ b.length = 48 ∧ nmL (pnL b 8) = true ∧ nbL (pnL b 8) 8 = b := by
  unfold pnB at h
  simp at h
  exact ⟨h.1.1.1, h.1.1.2, h.1.2, h.2⟩
theorem pn_of {b l : List UInt8} (h : nmL l = true) (hb : nbL l 8 = b) : pnB b = true ∧ pnL b 8 = l := by
  subst hb
  have e := pn_all h
  refine ⟨?_, e⟩
  unfold pnB
  rw [e, nbL_ok, nbL_length, h]
  simp
/-- All letters of a name's bits are there. -/
theorem pn_lt {b : List UInt8} (h : pnB b = true) {k : Nat} (hk : k < 8) : lt b k = pd (pnL b 8) k ∧ 0 < lo (dec 2 (gp b k)) := by
  obtain ⟨_, _, h1, h2⟩ := pn_yes h
  have h3 := lt_nb h1 hk
  rw [h2] at h3
  refine ⟨h3, ?_⟩
  rw [← lob_toNat]
  show 0 < (lt b k).toNat
  rw [h3]
  rcases Nat.lt_or_ge k (pnL b 8).length with hl | hl
  · rw [pd_in hl]; exact (nc_pos (nm_all h1 _ (List.getElem_mem hl))).1
  · rw [pd_out hl]; decide

/-- The first k letters. -/
def ltL (b : List UInt8) : Nat → List UInt8
  | 0 => []
  | k + 1 => ltL b k ++ [lt b k]
theorem ltL_length (b : List UInt8) : ∀ k, (ltL b k).length = k
  | 0 => rfl
  | k + 1 => by rw [ltL, List.length_append, ltL_length b k]; rfl
/-- Spaces off the end. -/
def trim (l : List UInt8) : List UInt8 := (l.reverse.dropWhile (· == 32)).reverse
theorem trim_sp (l : List UInt8) : ∀ n, trim (l ++ List.replicate n 32) = trim l
  | 0 => by simp
  | n + 1 => by
    rw [List.replicate_succ', ← List.append_assoc]
    unfold trim
    rw [List.reverse_append]
    exact trim_sp l n
theorem trim_nc {l : List UInt8} (h : ∀ c ∈ l, nc c = true) : trim l = l := by
  unfold trim
  rcases List.eq_nil_or_concat l with rfl | ⟨r, c, rfl⟩
  · rfl
  · have h1 := (nc_pos (h c (by simp))).2
    rw [List.concat_eq_append, List.reverse_append]
    show ((c :: r.reverse).dropWhile (· == 32)).reverse = r ++ [c]
    rw [List.dropWhile_cons, if_neg (by simpa using h1)]
    simp
theorem trim_take (l : List UInt8) : trim l = l.take (trim l).length := by
  have e : l = trim l ++ (l.reverse.takeWhile (· == 32)).reverse := by
    unfold trim
    rw [← List.reverse_append, List.takeWhile_append_dropWhile, List.reverse_reverse]
  conv => rhs; arg 2; rw [e]
  simp
theorem trim_le (l : List UInt8) : (trim l).length ≤ l.length := by
  rw [trim_take l, List.length_take]; exact Nat.min_le_right _ _
theorem ltL_pad {b l : List UInt8} (h : ∀ k, k < 8 → lt b k = pd l k) : ∀ k, k ≤ 8 → ltL b k = l.take k ++ List.replicate (k - l.length) 32
  | 0, _ => by simp [ltL]
  | k + 1, hk => by
    rw [ltL, ltL_pad h k (by omega), h k (by omega)]
    rcases Nat.lt_or_ge k l.length with h1 | h1
    · rw [pd_in h1, show k - l.length = 0 by omega, show k + 1 - l.length = 0 by omega, List.take_succ_eq_append_getElem h1]; simp
    · rw [pd_out h1, show k + 1 - l.length = (k - l.length) + 1 by omega, List.replicate_succ', List.take_of_length_le h1, List.take_of_length_le (by omega), List.append_assoc]
/-- What is left of the letters of a name's bits. -/
theorem trim_pn {b : List UInt8} (h : pnB b = true) : trim (ltL b 8) = pnL b 8 := by
  obtain ⟨_, _, h1, _⟩ := pn_yes h
  rw [ltL_pad (fun k hk => (pn_lt h hk).1) 8 (Nat.le_refl _), trim_sp, List.take_of_length_le (nm_len h1).2]
  exact trim_nc (nm_all h1)

/-- The code of a byte, or -1; the byte with a code, or 0: in Int. -/
def coI (n : Int) : Int := if 65 ≤ n ∧ n ≤ 90 then n - 64 else if (48 ≤ n ∧ n ≤ 57) ∨ n = 32 then n else -1
def loI (n : Int) : Int := if 1 ≤ n ∧ n ≤ 26 then n + 64 else if (48 ≤ n ∧ n ≤ 57) ∨ n = 32 then n else 0
theorem coI_1 {n r : Int} (h : 65 ≤ n ∧ n ≤ 90) (hr : r = n - 64) : r = coI n := by unfold coI; rw [if_pos h]; exact hr
theorem coI_2 {n r : Int} (h : ¬ (65 ≤ n ∧ n ≤ 90)) (h2 : (48 ≤ n ∧ n ≤ 57) ∨ n = 32) (hr : r = n) : r = coI n := by unfold coI; rw [if_neg h, if_pos h2]; exact hr
theorem coI_3 {n : Int} (h : ¬ (65 ≤ n ∧ n ≤ 90)) (h2 : ¬ ((48 ≤ n ∧ n ≤ 57) ∨ n = 32)) : -1 = coI n := by unfold coI; rw [if_neg h, if_neg h2]
theorem loI_1 {n r : Int} (h : 1 ≤ n ∧ n ≤ 26) (hr : r = n + 64) : r = loI n := by unfold loI; rw [if_pos h]; exact hr
theorem loI_2 {n r : Int} (h : ¬ (1 ≤ n ∧ n ≤ 26)) (h2 : (48 ≤ n ∧ n ≤ 57) ∨ n = 32) (hr : r = n) : r = loI n := by unfold loI; rw [if_neg h, if_pos h2]; exact hr
theorem loI_3 {n : Int} (h : ¬ (1 ≤ n ∧ n ≤ 26)) (h2 : ¬ ((48 ≤ n ∧ n ≤ 57) ∨ n = 32)) : 0 = loI n := by unfold loI; rw [if_neg h, if_neg h2]
theorem loI_bd (n : Int) : 0 ≤ loI n ∧ loI n ≤ 90 := by unfold loI; split <;> (try split) <;> omega
theorem loI_nat (n : Nat) : loI n = (lo n : Nat) := by unfold loI lo; split <;> (try split) <;> (try rw [if_pos (by omega)]) <;> (try rw [if_neg (by omega)]) <;> (try rw [if_pos (by omega)]) <;> (try rw [if_neg (by omega)]) <;> omega
theorem coI_fin : ∀ n : Fin 256, coI (n.val : Nat) = if cc (UInt8.ofNat n.val) then ((cv (UInt8.ofNat n.val) : Nat) : Int) else -1 := by decide +kernel
theorem coI_byte (c : UInt8) : coI (c.toNat : Nat) = if cc c then ((cv c : Nat) : Int) else -1 := by
  have := coI_fin ⟨c.toNat, c.toNat_lt⟩
  simpa only [UInt8.ofNat_toNat] using this
theorem coI_yes {c : UInt8} (h : cc c = true) : coI (c.toNat : Nat) = (cv c : Nat) := by rw [coI_byte, if_pos h]
theorem coI_bd (n : Int) : -1 ≤ coI n ∧ (n ≤ 255 → coI n ≤ 57) := by unfold coI; split <;> (try split) <;> omega
/-- LetterCode's answer. -/
def lcB (n : Int) : Bool := decide (0 ≤ coI n)
def lcV (n : Int) : Int := if lcB n then coI n else 0
/-- LetterOf's answer. -/
def lfB (n : Int) : Bool := decide (0 < loI n)
theorem nc_iff (c : UInt8) : nc c = true ↔ ((65 ≤ (c.toNat : Int) ∧ (c.toNat : Int) ≤ 90) ∨ (48 ≤ (c.toNat : Int) ∧ (c.toNat : Int) ≤ 57)) := by
  unfold nc ltr dig
  simp only [Bool.or_eq_true, decide_eq_true_eq]
  omega
theorem nc_coI (c : UInt8) : nc c = true ↔ (0 ≤ coI (c.toNat : Nat) ∧ (c.toNat : Int) ≠ 32) := by
  rw [nc_iff]
  unfold coI
  split
  · omega
  · split <;> omega

/-- The bits of a name as a text; NameBits's answer. -/
def nbA (s : ByteArray) : ByteArray := ⟨(nbL s.data.toList 8).toArray⟩
def nmB (s : ByteArray) : Bool := nmL s.data.toList
def nbT (s : ByteArray) : ByteArray := if nmB s then nbA s else ⟨#[]⟩
theorem nbA_list (s : ByteArray) : (nbA s).data.toList = nbL s.data.toList 8 := rfl
theorem nbA_size (s : ByteArray) : (nbA s).size = 48 := nbL_length s.data.toList 8
theorem nbA_ok (s : ByteArray) : ok 2 (nbA s).data.toList = true := nbL_ok _ _
theorem nbA_rd (s : ByteArray) : rdB 2 64 (nbA s) = true := by unfold rdB; rw [nbA_size, nbA_ok]; rfl
/-- NamePart's answer. -/
def npB (s : ByteArray) (p : Int) : Bool := nmB s && decide (0 ≤ p ∧ p ≤ 1)
def npV (s : ByteArray) (p : Int) : Nat := if npB s p then dec 2 ((nbA s).extract (24 * p).toNat (24 * p + 24).toNat).data.toList else 0

/-- The bits in which a name's differ from others. -/
def dst (b s : ByteArray) : Nat := ones (List.zipWith df (nbA s).data.toList b.data.toList)
theorem ones_le (l : List UInt8) : ones l ≤ l.length := List.countP_le_length
theorem dst_le (b s : ByteArray) : dst b s ≤ 48 := by
  unfold dst
  refine Nat.le_trans (ones_le _) ?_
  rw [List.length_zipWith]
  have : (nbA s).data.toList.length = 48 := nbL_length s.data.toList 8
  omega
/-- The smallest of k numbers, its first place, whether it is there twice. -/
def sL (f : Nat → Nat) : Nat → Nat
  | 0 => 49
  | k + 1 => if f k < sL f k then f k else sL f k
def sB (f : Nat → Nat) : Nat → Nat
  | 0 => 0
  | k + 1 => if f k < sL f k then k else sB f k
def sT (f : Nat → Nat) : Nat → Bool
  | 0 => false
  | k + 1 => if f k < sL f k then false else if f k = sL f k then true else sT f k
theorem sL_le (f : Nat → Nat) : ∀ k, sL f k ≤ 49
  | 0 => Nat.le_refl _
  | k + 1 => by have := sL_le f k; rw [sL]; split <;> omega
theorem sB_le (f : Nat → Nat) : ∀ k, sB f k ≤ k
  | 0 => Nat.le_refl _
  | k + 1 => by have := sB_le f k; rw [sB]; split <;> omega
def at_ (xs : List ByteArray) (i : Nat) : ByteArray := xs.getD i ⟨#[]⟩
theorem at_of {xs : List ByteArray} {k : Nat} {x : ByteArray} (h : xs[k]? = some x) : at_ xs k = x := by unfold at_; rw [List.getD_eq_getElem?_getD, h]; rfl
/-- NearestName's answer. -/
def nrB (xs : List ByteArray) (b : ByteArray) : Bool := decide (1 ≤ xs.length ∧ xs.length ≤ 20) && (rdB 2 64 b && (decide (b.size = 48) && (xs.all nmB && !sT (fun i => dst b (at_ xs i)) xs.length)))
def nrI (xs : List ByteArray) (b : ByteArray) : Nat := if nrB xs b then sB (fun i => dst b (at_ xs i)) xs.length else 0
def nrV (xs : List ByteArray) (b : ByteArray) : Nat := if nrB xs b then sL (fun i => dst b (at_ xs i)) xs.length else 0
theorem nr_bad {xs : List ByteArray} {b : ByteArray} {k : Nat} {x : ByteArray} (h : xs[k]? = some x) (hx : nmB x = false) : nrB xs b = false := by
  have : xs.all nmB = false := by
    rw [List.all_eq_false]
    exact ⟨x, List.mem_of_getElem? h, by rw [hx]; decide⟩
  unfold nrB
  rw [this]
  simp
theorem nr_no {xs : List ByteArray} {b : ByteArray} (h : nrB xs b = false) : Ending.returned (.tuple #[.int .i64 0, .int .i64 0, .bool false]) = .returned (.tuple #[.int .i64 (nrI xs b), .int .i64 (nrV xs b), .bool (nrB xs b)]) := by unfold nrI nrV; rw [h]; rfl
theorem nr_yes {xs : List ByteArray} {b : ByteArray} {i v : Nat} (h : nrB xs b = true) (hi : i = sB (fun i => dst b (at_ xs i)) xs.length) (hv : v = sL (fun i => dst b (at_ xs i)) xs.length) :
    Ending.returned (.tuple #[.int .i64 i, .int .i64 v, .bool true]) = .returned (.tuple #[.int .i64 (nrI xs b), .int .i64 (nrV xs b), .bool (nrB xs b)]) := by unfold nrI nrV; rw [h, hi, hv]; rfl
/-- The first k names are names. -/
def oks (xs : List ByteArray) (k : Nat) : Bool := (xs.take k).all nmB
theorem oks_snoc {xs : List ByteArray} {k : Nat} {x : ByteArray} (h : oks xs k = true) (hx : xs[k]? = some x) (hn : nmB x = true) : oks xs (k + 1) = true := by
  unfold oks at *
  rw [List.take_add_one, List.all_append, h, hx]
  simp [hn]
theorem oks_all {xs : List ByteArray} (h : oks xs xs.length = true) : xs.all nmB = true := by unfold oks at h; rwa [List.take_length] at h
end Go.Proofs.YtjfhkbpkiblkmaaDoor.nam
