/- For every code of at most 65536 bytes (and trivially for a longer one) the law FnSyndromes returns true: what it draws are short strings and numbers in range, whatever the bytes are; the syndrome of a bit string with one bit flipped is the exclusive or with the pattern of this bit, and a bit string is sound, repaired or neither as the smallest number of flips tells. No condition of mine. -/
import Derived.Test.YtdededldoamifaaRows
import Derived.Test.YtdededldoamifaaDrawQ
import Derived.Test.YtdededldoamifaaParQ
import Derived.Test.YtdededldoamifaaParW
import Derived.Test.YtdededldoamifaaParM
import Derived.Test.YtdededldoamifaaCode
import Derived.WalkKit
import Derived.ProofKit
import Derived.OpenShut
import Derived.ShutString
import Derived.ChangeOld
import Derived.Below
namespace Go.Proofs.Ytdededldoamifaa.fnSyndromes
open Go.ChangeShapes Go.WideShapes Go.ChangeAt Go.RowKit
open Go.ChangeMaps (open_string shut_string)
open Go.Proofs.Ytdededldoamifaa.code_ Go.Proofs.Ytdededldoamifaa.cur
set_option linter.unusedVariables false

theorem bool_ne_self (b : Bool) : (b != b) = false := by simp
theorem bool_eq_self (b : Bool) : (b == b) = true := by simp
theorem str_ne_self (x : ByteArray) : (!(x.toList == x.toList)) = false := by simp
theorem str_eq_self (x : ByteArray) : (x.toList == x.toList) = true := by simp
theorem int_ne_self (x : Int) : (x != x) = false := by simp

set_option maxRecDepth 100000 in
set_option maxHeartbeats 16000000 in
theorem walk (A : Option Addr) (n c : Nat) (z : List Int) (w : World) (w0 : IsRow .u8 w A n c z) :
    Calls Try.prog 4 #[.slice A n c] w fun e w' => e = .returned (.bool true) ∧ Below w.heap.size w w' := by
  obtain ⟨hby, hnc, -⟩ := bytes_of w0
  clear w0
  by_cases hbig : (65536 : Int) < (n : Int)
  · have hv := Lib.hid (fun w => vBig A n c w)
    clear hby
    go_enter Try.func4, Try.ntmps4
    go_wp2_with fail
    refine (hv.out _).mono ?_
    rintro e w1 ⟨rfl, rfl⟩
    go_wp2_with fail
    go_ret
    exact ⟨rfl, Below.refl _ _⟩
  · have hd : decide ((65536 : Int) < (n : Int)) = false := by simpa using hbig
    have hn : n ≤ 65536 := by omega
    have hv := Lib.hid (fun w => vBig A n c w)
    have H := Lib.hid hby
    clear hby hbig
    go_enter Try.func4, Try.ntmps4
    go_wp2_with fail
    refine (hv.out _).mono ?_
    rintro e w1 ⟨rfl, rfl⟩
    go_wp2_with fail
    refine (drawq.syndromeOf A n c _ hn H.out).mono ?_
    rintro e w1 ⟨s, rfl, hs, hb1⟩
    have AI := Lib.hid (fun w => pari.syndromeOf s w)
    have AS := Lib.hid (fun w => pars.syndromeOf s w (by unfold maxLen; omega))
    have WI := Lib.hid (fun w => parq.weakestFlips s w)
    have WS := Lib.hid (fun w => parw.weakestFlips s w (by unfold maxLen; omega))
    have TU := Lib.hid (fun i h hi => parm.turned (s := s) (i := i) h hi)
    have C3 := Lib.hid (fun h => parm.cases3 (s := s) h)
    cases hB : par.sndB s
    · rw [hB] at AI AS WI WS
      have hTT := str_ne_self (par.synT s)
      have hrr := int_ne_self (par.wkV s : Int)
      clear TU C3 hB hs
      generalize par.synT s = T at *
      generalize par.wkV s = r at *
      go_wp2_with fail
      refine (AI.out _).mono ?_
      rintro e w2 ⟨rfl, hb2⟩
      have hb2 := hb1.trans (hb2.mono hb1.size)
      go_wp2_with fail
      refine (AS.out _).mono ?_
      rintro e w3 ⟨rfl, hb3⟩
      have hb3 := hb2.trans (hb3.mono hb2.size)
      clear hb1 hb2
      go_wp2_with fail
      refine (WI.out _).mono ?_
      rintro e w4 ⟨rfl, hb4⟩
      have hb4 := hb3.trans (hb4.mono hb3.size)
      go_wp2_with fail
      refine (WS.out _).mono ?_
      rintro e w5 ⟨rfl, hb5⟩
      have HB3 := Lib.hid (hb4.trans (hb5.mono hb4.size))
      clear hb3 hb4 hb5 AI AS WI WS
      go_wp2_with fail
      refine (drawq.patternOf A n c _ hn (Bytes_below H.out HB3.out)).mono ?_
      rintro e v1 ⟨l, i, rfl, l0, l1, i0, i1, hb6⟩
      have HB6 := Lib.hid (HB3.out.trans (hb6.mono HB3.out.size))
      have LI := Lib.hid (fun w => parq.patternOf l i w)
      have LS := Lib.hid (fun w => parr.patternOf l i w (by omega))
      have hQQ := str_ne_self (par.ptT l i)
      have hqq := bool_ne_self (par.ptB l i)
      clear hb6 HB3 l0 l1 i0 i1
      generalize par.ptT l i = Q at *
      generalize par.ptB l i = q at *
      go_wp2_with fail
      refine (LI.out _).mono ?_
      rintro e v2 ⟨rfl, hb7⟩
      have HB7 := Lib.hid (HB6.out.trans (hb7.mono HB6.out.size))
      clear hb7
      go_wp2_with fail
      refine (LS.out _).mono ?_
      rintro e v3 ⟨rfl, hb8⟩
      have HB8 := Lib.hid (HB7.out.trans (hb8.mono HB7.out.size))
      clear hb8 HB6 HB7 LI LS
      go_wp2_with fail
      refine (drawq.parityOf A n c _ hn (Bytes_below H.out HB8.out)).mono ?_
      rintro e v4 ⟨u, rfl, hus, hb9⟩
      have HB9 := Lib.hid (HB8.out.trans (hb9.mono HB8.out.size))
      have UI := Lib.hid (fun w => pari.parityOf u w)
      have US := Lib.hid (fun w => pars.parityOf u w (by unfold maxLen; omega))
      have hVV := str_eq_self (par.parT u)
      have hvv := bool_eq_self (good_.rdB 2 52 u)
      clear hb9 hus HB8
      generalize par.parT u = V at *
      generalize good_.rdB 2 52 u = v at *
      go_wp2_with fail
      refine (UI.out _).mono ?_
      rintro e v5 ⟨rfl, hb10⟩
      have HB10 := Lib.hid (HB9.out.trans (hb10.mono HB9.out.size))
      clear hb10 HB9
      go_wp2_with fail
      refine (US.out _).mono ?_
      rintro e v6 ⟨rfl, rfl⟩
      go_wp2_with fail
      go_ret
      exact ⟨rfl, HB10.out⟩
    · have h12 := (par.snd_of hB).2
      obtain ⟨k, hk⟩ : ∃ k : Nat, k = s.size / 2 := ⟨_, rfl⟩
      have hks : k < s.size := by omega
      obtain ⟨t1, t2, t3, t4, t5, t6, t7⟩ := TU.out k hB hks
      have e1 : ((s.size : Int)).tdiv 2 = (k : Int) := by rw [Int.tdiv_eq_ediv_of_nonneg (by omega)]; omega
      have e2 : (s.size : Int) / 2 = (k : Int) := by omega
      have e3 : IntKind.i64.wrap (k : Int) = (k : Int) := IntWalk.i64_in _ (by omega)
      obtain ⟨y1, y2⟩ := parm.xor12 (par.syn s) (par.pat (s.size - 1 - k))
      have FI := Lib.hid (fun w => bitsi.flipBit s k w)
      have YI := Lib.hid (fun w => pari.syndromeOf (good_.flipT s k) w)
      have PI := Lib.hid (fun w => parq.patternOf s.size k w)
      have XI := Lib.hid (fun w => bitsi.xorBits ⟨(bin.enc 2 12 (par.syn s)).toArray⟩ ⟨(bin.enc 2 12 (par.pat (s.size - 1 - k))).toArray⟩ w)
      have SI := Lib.hid (fun w => pari.isSound s w)
      have RI := Lib.hid (fun w => parq.repairBit s w)
      have hc3 := C3.out hB
      rw [hB, t4] at AI AS
      rw [hB] at WI WS SI
      rw [t1, t2] at FI
      rw [t3, t5] at YI
      rw [t6, t7] at PI
      rw [y1, y2] at XI
      have hTT := str_ne_self ⟨(bin.enc 2 12 (par.syn s)).toArray⟩
      have hZZ := str_ne_self ⟨(bin.enc 2 12 (par.syn s ^^^ par.pat (s.size - 1 - k))).toArray⟩
      clear TU C3 hB t1 t2 t3 t4 t5 t6 t7 y1 y2 h12 hk hks
      generalize (⟨(bin.enc 2 12 (par.syn s)).toArray⟩ : ByteArray) = X at *
      generalize (⟨(bin.enc 2 12 (par.pat (s.size - 1 - k))).toArray⟩ : ByteArray) = P at *
      generalize (⟨(bin.enc 2 12 (par.syn s ^^^ par.pat (s.size - 1 - k))).toArray⟩ : ByteArray) = Z at *
      generalize good_.flipT s k = u at *
      generalize par.repT s = R at *
      generalize par.repI s = a at *
      generalize par.repB s = rb at *
      generalize par.sndV s = sv at *
      generalize par.wkV s = r at *
      rcases hc3 with ⟨rfl, rfl, rfl, rfl⟩ | ⟨rfl, rfl, rfl, a0, a1⟩ | ⟨m, rfl, hm, rfl, rfl, rfl⟩
      · go_wp2_with fail
        refine (AI.out _).mono ?_
        rintro e w2 ⟨rfl, hb2⟩
        have HB2 := Lib.hid (hb1.trans (hb2.mono hb1.size))
        clear hb1 hb2
        go_wp2_with fail
        refine (AS.out _).mono ?_
        rintro e w3 ⟨rfl, hb3⟩
        have HB3 := Lib.hid (HB2.out.trans (hb3.mono HB2.out.size))
        clear hb3
        go_wp2_with fail
        refine (WI.out _).mono ?_
        rintro e w4 ⟨rfl, hb4⟩
        have HB4 := Lib.hid (HB3.out.trans (hb4.mono HB3.out.size))
        clear hb4
        go_wp2_with fail
        refine (WS.out _).mono ?_
        rintro e w5 ⟨rfl, hb5⟩
        have HB5 := Lib.hid (HB4.out.trans (hb5.mono HB4.out.size))
        clear hb5
        go_wp2_with fail
        refine (FI.out _).mono ?_
        rintro e w6 ⟨rfl, hb6⟩
        have HB6 := Lib.hid (HB5.out.trans (hb6.mono HB5.out.size))
        clear hb6
        go_wp2_with fail
        refine (YI.out _).mono ?_
        rintro e w7 ⟨rfl, hb7⟩
        have HB7 := Lib.hid (HB6.out.trans (hb7.mono HB6.out.size))
        clear hb7
        go_wp2_with fail
        refine (PI.out _).mono ?_
        rintro e w8 ⟨rfl, hb8⟩
        have HB8 := Lib.hid (HB7.out.trans (hb8.mono HB7.out.size))
        clear hb8
        go_wp2_with fail
        refine (XI.out _).mono ?_
        rintro e w9 ⟨rfl, hb9⟩
        have HB9 := Lib.hid (HB8.out.trans (hb9.mono HB8.out.size))
        clear hb9
        go_wp2_with fail
        refine (SI.out _).mono ?_
        rintro e w10 ⟨rfl, rfl⟩
        go_wp2_with fail
        refine (RI.out _).mono ?_
        rintro e w10 ⟨rfl, hb10⟩
        have HB3 := Lib.hid (HB9.out.trans (hb10.mono HB9.out.size))
        clear hb10 HB2 HB4 HB5 HB6 HB7 HB8 HB9 AI AS WI WS FI YI PI XI SI RI
        go_wp2_with fail
        refine (drawq.patternOf A n c _ hn (Bytes_below H.out HB3.out)).mono ?_
        rintro e v1 ⟨l, i, rfl, l0, l1, i0, i1, hb6⟩
        have HB6 := Lib.hid (HB3.out.trans (hb6.mono HB3.out.size))
        have LI := Lib.hid (fun w => parq.patternOf l i w)
        have LS := Lib.hid (fun w => parr.patternOf l i w (by omega))
        have hQQ := str_ne_self (par.ptT l i)
        have hqq := bool_ne_self (par.ptB l i)
        clear hb6 HB3 l0 l1 i0 i1
        generalize par.ptT l i = Q at *
        generalize par.ptB l i = q at *
        go_wp2_with fail
        refine (LI.out _).mono ?_
        rintro e v2 ⟨rfl, hb7⟩
        have HB7 := Lib.hid (HB6.out.trans (hb7.mono HB6.out.size))
        clear hb7
        go_wp2_with fail
        refine (LS.out _).mono ?_
        rintro e v3 ⟨rfl, hb8⟩
        have HB8 := Lib.hid (HB7.out.trans (hb8.mono HB7.out.size))
        clear hb8 HB6 HB7 LI LS
        go_wp2_with fail
        refine (drawq.parityOf A n c _ hn (Bytes_below H.out HB8.out)).mono ?_
        rintro e v4 ⟨u, rfl, hus, hb9⟩
        have HB9 := Lib.hid (HB8.out.trans (hb9.mono HB8.out.size))
        have UI := Lib.hid (fun w => pari.parityOf u w)
        have US := Lib.hid (fun w => pars.parityOf u w (by unfold maxLen; omega))
        have hVV := str_eq_self (par.parT u)
        have hvv := bool_eq_self (good_.rdB 2 52 u)
        clear hb9 hus HB8
        generalize par.parT u = V at *
        generalize good_.rdB 2 52 u = v at *
        go_wp2_with fail
        refine (UI.out _).mono ?_
        rintro e v5 ⟨rfl, hb10⟩
        have HB10 := Lib.hid (HB9.out.trans (hb10.mono HB9.out.size))
        clear hb10 HB9
        go_wp2_with fail
        refine (US.out _).mono ?_
        rintro e v6 ⟨rfl, rfl⟩
        go_wp2_with fail
        go_ret
        exact ⟨rfl, HB10.out⟩
      · have ha : (a == -1) = false := by simp; omega
        go_wp2_with fail
        refine (AI.out _).mono ?_
        rintro e w2 ⟨rfl, hb2⟩
        have HB2 := Lib.hid (hb1.trans (hb2.mono hb1.size))
        clear hb1 hb2
        go_wp2_with fail
        refine (AS.out _).mono ?_
        rintro e w3 ⟨rfl, hb3⟩
        have HB3 := Lib.hid (HB2.out.trans (hb3.mono HB2.out.size))
        clear hb3
        go_wp2_with fail
        refine (WI.out _).mono ?_
        rintro e w4 ⟨rfl, hb4⟩
        have HB4 := Lib.hid (HB3.out.trans (hb4.mono HB3.out.size))
        clear hb4
        go_wp2_with fail
        refine (WS.out _).mono ?_
        rintro e w5 ⟨rfl, hb5⟩
        have HB5 := Lib.hid (HB4.out.trans (hb5.mono HB4.out.size))
        clear hb5
        go_wp2_with fail
        refine (FI.out _).mono ?_
        rintro e w6 ⟨rfl, hb6⟩
        have HB6 := Lib.hid (HB5.out.trans (hb6.mono HB5.out.size))
        clear hb6
        go_wp2_with fail
        refine (YI.out _).mono ?_
        rintro e w7 ⟨rfl, hb7⟩
        have HB7 := Lib.hid (HB6.out.trans (hb7.mono HB6.out.size))
        clear hb7
        go_wp2_with fail
        refine (PI.out _).mono ?_
        rintro e w8 ⟨rfl, hb8⟩
        have HB8 := Lib.hid (HB7.out.trans (hb8.mono HB7.out.size))
        clear hb8
        go_wp2_with fail
        refine (XI.out _).mono ?_
        rintro e w9 ⟨rfl, hb9⟩
        have HB9 := Lib.hid (HB8.out.trans (hb9.mono HB8.out.size))
        clear hb9
        go_wp2_with fail
        refine (SI.out _).mono ?_
        rintro e w10 ⟨rfl, rfl⟩
        go_wp2_with fail
        refine (RI.out _).mono ?_
        rintro e w10 ⟨rfl, hb10⟩
        have HB3 := Lib.hid (HB9.out.trans (hb10.mono HB9.out.size))
        clear hb10 HB2 HB4 HB5 HB6 HB7 HB8 HB9 AI AS WI WS FI YI PI XI SI RI
        go_wp2_with fail
        refine (drawq.patternOf A n c _ hn (Bytes_below H.out HB3.out)).mono ?_
        rintro e v1 ⟨l, i, rfl, l0, l1, i0, i1, hb6⟩
        have HB6 := Lib.hid (HB3.out.trans (hb6.mono HB3.out.size))
        have LI := Lib.hid (fun w => parq.patternOf l i w)
        have LS := Lib.hid (fun w => parr.patternOf l i w (by omega))
        have hQQ := str_ne_self (par.ptT l i)
        have hqq := bool_ne_self (par.ptB l i)
        clear hb6 HB3 l0 l1 i0 i1
        generalize par.ptT l i = Q at *
        generalize par.ptB l i = q at *
        go_wp2_with fail
        refine (LI.out _).mono ?_
        rintro e v2 ⟨rfl, hb7⟩
        have HB7 := Lib.hid (HB6.out.trans (hb7.mono HB6.out.size))
        clear hb7
        go_wp2_with fail
        refine (LS.out _).mono ?_
        rintro e v3 ⟨rfl, hb8⟩
        have HB8 := Lib.hid (HB7.out.trans (hb8.mono HB7.out.size))
        clear hb8 HB6 HB7 LI LS
        go_wp2_with fail
        refine (drawq.parityOf A n c _ hn (Bytes_below H.out HB8.out)).mono ?_
        rintro e v4 ⟨u, rfl, hus, hb9⟩
        have HB9 := Lib.hid (HB8.out.trans (hb9.mono HB8.out.size))
        have UI := Lib.hid (fun w => pari.parityOf u w)
        have US := Lib.hid (fun w => pars.parityOf u w (by unfold maxLen; omega))
        have hVV := str_eq_self (par.parT u)
        have hvv := bool_eq_self (good_.rdB 2 52 u)
        clear hb9 hus HB8
        generalize par.parT u = V at *
        generalize good_.rdB 2 52 u = v at *
        go_wp2_with fail
        refine (UI.out _).mono ?_
        rintro e v5 ⟨rfl, hb10⟩
        have HB10 := Lib.hid (HB9.out.trans (hb10.mono HB9.out.size))
        clear hb10 HB9
        go_wp2_with fail
        refine (US.out _).mono ?_
        rintro e v6 ⟨rfl, rfl⟩
        go_wp2_with fail
        go_ret
        exact ⟨rfl, HB10.out⟩
      · have hrr := int_ne_self ((m + 2 : Nat) : Int)
        have hm0 : (((m + 2 : Nat) : Int) == 0) = false := by simp; omega
        have hm1 : decide (((m + 2 : Nat) : Int) ≤ 1) = false := decide_eq_false (by omega)
        clear hm
        generalize m + 2 = r at *
        go_wp2_with fail
        refine (AI.out _).mono ?_
        rintro e w2 ⟨rfl, hb2⟩
        have HB2 := Lib.hid (hb1.trans (hb2.mono hb1.size))
        clear hb1 hb2
        go_wp2_with fail
        refine (AS.out _).mono ?_
        rintro e w3 ⟨rfl, hb3⟩
        have HB3 := Lib.hid (HB2.out.trans (hb3.mono HB2.out.size))
        clear hb3
        go_wp2_with fail
        refine (WI.out _).mono ?_
        rintro e w4 ⟨rfl, hb4⟩
        have HB4 := Lib.hid (HB3.out.trans (hb4.mono HB3.out.size))
        clear hb4
        go_wp2_with fail
        refine (WS.out _).mono ?_
        rintro e w5 ⟨rfl, hb5⟩
        have HB5 := Lib.hid (HB4.out.trans (hb5.mono HB4.out.size))
        clear hb5
        go_wp2_with fail
        refine (FI.out _).mono ?_
        rintro e w6 ⟨rfl, hb6⟩
        have HB6 := Lib.hid (HB5.out.trans (hb6.mono HB5.out.size))
        clear hb6
        go_wp2_with fail
        refine (YI.out _).mono ?_
        rintro e w7 ⟨rfl, hb7⟩
        have HB7 := Lib.hid (HB6.out.trans (hb7.mono HB6.out.size))
        clear hb7
        go_wp2_with fail
        refine (PI.out _).mono ?_
        rintro e w8 ⟨rfl, hb8⟩
        have HB8 := Lib.hid (HB7.out.trans (hb8.mono HB7.out.size))
        clear hb8
        go_wp2_with fail
        refine (XI.out _).mono ?_
        rintro e w9 ⟨rfl, hb9⟩
        have HB9 := Lib.hid (HB8.out.trans (hb9.mono HB8.out.size))
        clear hb9
        go_wp2_with fail
        refine (SI.out _).mono ?_
        rintro e w10 ⟨rfl, rfl⟩
        go_wp2_with fail
        refine (RI.out _).mono ?_
        rintro e w10 ⟨rfl, hb10⟩
        have HB3 := Lib.hid (HB9.out.trans (hb10.mono HB9.out.size))
        clear hb10 HB2 HB4 HB5 HB6 HB7 HB8 HB9 AI AS WI WS FI YI PI XI SI RI
        go_wp2_with fail
        refine (drawq.patternOf A n c _ hn (Bytes_below H.out HB3.out)).mono ?_
        rintro e v1 ⟨l, i, rfl, l0, l1, i0, i1, hb6⟩
        have HB6 := Lib.hid (HB3.out.trans (hb6.mono HB3.out.size))
        have LI := Lib.hid (fun w => parq.patternOf l i w)
        have LS := Lib.hid (fun w => parr.patternOf l i w (by omega))
        have hQQ := str_ne_self (par.ptT l i)
        have hqq := bool_ne_self (par.ptB l i)
        clear hb6 HB3 l0 l1 i0 i1
        generalize par.ptT l i = Q at *
        generalize par.ptB l i = q at *
        go_wp2_with fail
        refine (LI.out _).mono ?_
        rintro e v2 ⟨rfl, hb7⟩
        have HB7 := Lib.hid (HB6.out.trans (hb7.mono HB6.out.size))
        clear hb7
        go_wp2_with fail
        refine (LS.out _).mono ?_
        rintro e v3 ⟨rfl, hb8⟩
        have HB8 := Lib.hid (HB7.out.trans (hb8.mono HB7.out.size))
        clear hb8 HB6 HB7 LI LS
        go_wp2_with fail
        refine (drawq.parityOf A n c _ hn (Bytes_below H.out HB8.out)).mono ?_
        rintro e v4 ⟨u, rfl, hus, hb9⟩
        have HB9 := Lib.hid (HB8.out.trans (hb9.mono HB8.out.size))
        have UI := Lib.hid (fun w => pari.parityOf u w)
        have US := Lib.hid (fun w => pars.parityOf u w (by unfold maxLen; omega))
        have hVV := str_eq_self (par.parT u)
        have hvv := bool_eq_self (good_.rdB 2 52 u)
        clear hb9 hus HB8
        generalize par.parT u = V at *
        generalize good_.rdB 2 52 u = v at *
        go_wp2_with fail
        refine (UI.out _).mono ?_
        rintro e v5 ⟨rfl, hb10⟩
        have HB10 := Lib.hid (HB9.out.trans (hb10.mono HB9.out.size))
        clear hb10 HB9
        go_wp2_with fail
        refine (US.out _).mono ?_
        rintro e v6 ⟨rfl, rfl⟩
        go_wp2_with fail
        go_ret
        exact ⟨rfl, HB10.out⟩

theorem own : ownKnob Try.prog.godebug = none := by kernel_rfl
theorem laidOut : laidOutB Try.prog = true := by kernel_rfl

set_option maxRecDepth 100000 in
theorem lifted (os : Os) (started : os.Started) (H : Type) (enc : TypeId × Value → H) :
    ReturnsInHanded {} Try.checked os 4 .any (Rows.fnSyndromesSpec.pre6 enc Try.prog Try.f4 Rows.fnSyndromesRow.domain false) (Rows.fnSyndromesSpec.post enc Try.prog Try.f4 false true false false) := by
  refine returnsInHanded_of_change (C := Try.checked) own started (by kernel_rfl) Try.func4
    (ChangeSpec.witness6 (enc := enc) (C := Try.checked) false ⟨#[], #[.slice none 0 0], []⟩ 8 (by kernel_rfl) (by kernel_rfl) (by kernel_rfl) (by kernel_rfl)) ?_
  intro W base args ds gs before hval0 hW hcnd _
  have hval : ∀ (j : Nat) t v, Try.f4.params[j]? = some t → args[j]? = some v → Value.okWide Try.prog W .any base t v := hval0
  have hW' := hW
  obtain ⟨p, q, hA0, hV, rfl, hfz, hnd⟩ := hW
  have hA : DataW.TrodAll enc Try.prog W 0 (fun _ => true) true Try.f4.params.toList args.toList ds p := hA0
  rw [Try.params4] at hA hval
  obtain ⟨v0, vs0, d0, ds0, p0, q0, hargs, rfl, rfl, h0, r0⟩ := trodAll_cons hA
  obtain ⟨rfl, rfl, rfl⟩ := trodAll_nil r0
  obtain rfl : args = #[v0] := by cases args; simp_all
  obtain ⟨rfl, rfl⟩ := trodVars_none hV
  obtain ⟨a0, len0, cap0, rfl⟩ := okWide_slice Try.underlying22 (hval 0 22 v0 rfl rfl)
  have k0 := h0
  have lt0 : ∀ x ∈ p0, x.block < W.heap.size := by obtain ⟨m, hm⟩ := k0; exact DataW.trod_lt m _ _ _ hm
  obtain ⟨z0, w0⟩ : ∃ zs, IsRow .u8 W a0 len0 cap0 zs := by
    obtain ⟨fuel, hf⟩ := h0
    rcases open_ints Try.underlying22 Try.underlying5 (by kernel_rfl) hf with ⟨hcs, _⟩ | ⟨x, l, c, zs, hcs, _, hl, hm, hz, _, hcell, hwz⟩
    · simp [Value.cells] at hcs
      obtain ⟨rfl, rfl, rfl⟩ := hcs
      exact ⟨[], .inl ⟨rfl, rfl, rfl, rfl⟩⟩
    · simp [Value.cells] at hcs
      obtain ⟨rfl, rfl, rfl⟩ := hcs
      exact ⟨zs, .inr ⟨_, rfl, hl, hm, by simpa using hz, hcell, hwz⟩⟩
  clear hA0 hval0
  refine (walk a0 len0 cap0 z0 W w0).mono fun e W' ⟨he, bel⟩ => ?_
  subst he
  exact ⟨_, rfl, _, _, _, [], _, [], hW', trodAll_mk1 (shut_bool Try.underlying4 _), (trodAll_cons_mk (Below.trod laidOut (by kernel_rfl) (of_decide_eq_true (by kernel_rfl)) k0 bel lt0) trodAll_mk0), rfl, bel.frame _, fun h => by cases h⟩

theorem over : Rows.fnSyndromesRow.holds Try.pinned (OpenSpec.ofChange Rows.fnSyndromesSpec) :=
  OpenClaim.holds_of_wide 4 Try.f4 rfl rfl rfl rfl rfl rfl rfl ⟨rfl, rfl, rfl, rfl, rfl⟩ rfl rfl rfl rfl rfl (by kernel_rfl) Try.func4 (by kernel_rfl)
    (of_decide_eq_true (by kernel_rfl)) (by unfold Func.isWrapper; first | (rw [if_pos (by decide +kernel)]; kernel_rfl) | (rw [if_neg (by decide +kernel)]; exact ⟨rfl, rfl⟩))
    (fun os started H enc _ => lifted os started H enc)

theorem proved : Rows.FnSyndromesSaid :=
  over
#print axioms proved
end Go.Proofs.Ytdededldoamifaa.fnSyndromes
