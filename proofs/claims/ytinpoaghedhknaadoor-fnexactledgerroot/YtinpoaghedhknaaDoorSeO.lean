/- Sessions that are right: impl.replyOK, impl.sessionsOK. -/
import Derived.Test.YtinpoaghedhknaaDoorSes
import Derived.Test.YtinpoaghedhknaaDoorIn
import Derived.Test.YtinpoaghedhknaaDoorQb
namespace Go.Proofs.YtinpoaghedhknaaDoor
open Go.ChangeShapes Go.WideShapes Go.ChangeAt Go.RowKit
set_option linter.unusedVariables false

def repB (kd pl : Int) (vl : ByteArray) : Bool := inB kd 0 6 && inB pl 0 50 && decide (vl.size ≤ 60)
/-- The least Id that session i may have. -/
def leastS (l : List Se) : Nat → Int
  | 0 => 0
  | i + 1 => (l.getD i default).id + 1
def sesAt (l : List Se) (i : Nat) : Bool := inB (l.getD i default).id (leastS l i) 65535 && inB (l.getD i default).sq 0 65535 && repB (l.getD i default).kd (l.getD i default).pl (l.getD i default).vl
def sesTo (l : List Se) (k : Nat) : Prop := ∀ i, i < k → sesAt l i = true
theorem sesTo.next {l : List Se} {k : Nat} (h : sesTo l k) (hk : sesAt l k = true) : sesTo l (k + 1) := fun i hi => by
  by_cases e : i = k
  · subst e; exact hk
  · exact h i (by omega)
theorem leastS_lo {l : List Se} : ∀ {k : Nat}, sesTo l k → 0 ≤ leastS l k
  | 0, _ => Int.le_refl _
  | k + 1, h => by
    have h1 := h k (by omega)
    have h2 := leastS_lo (l := l) (k := k) (fun i hi => h i (by omega))
    unfold sesAt at h1
    simp only [Bool.and_eq_true] at h1
    have := (inB_iff.1 h1.1.1).1
    show 0 ≤ (l.getD k default).id + 1
    omega
def sesB (l : List Se) : Bool := decide (l.length ≤ 8) && (List.range l.length).all (sesAt l)
theorem ses_bad {l : List Se} {k : Nat} (hk : k < l.length) (h : sesAt l k = false) : sesB l = false := by
  have : (List.range l.length).all (sesAt l) = false := by
    rw [List.all_eq_false]; exact ⟨k, by simpa using hk, by simp [h]⟩
  unfold sesB; rw [this]; simp
theorem ses_all {l : List Se} (h3 : l.length ≤ 8) (h : sesTo l l.length) : sesB l = true := by
  have : (List.range l.length).all (sesAt l) = true := by
    rw [List.all_eq_true]; exact fun i hi => h i (by simpa using hi)
  unfold sesB; rw [this, decide_eq_true h3]; simp
theorem sesB_all {l : List Se} (h : sesB l = true) : l.length ≤ 8 ∧ sesTo l l.length := by
  unfold sesB at h
  rw [Bool.and_eq_true, List.all_eq_true] at h
  exact ⟨by simpa using h.1, fun i hi => h.2 i (by simpa using hi)⟩
theorem wrapSes (n : Int) (h0 : 0 ≤ n) (h1 : n < 9223372036854775808) : IntKind.i64.wrap n = n := by
  simp only [IntKind.wrap, IntKind.bits, IntKind.signed]
  simp
  omega
set_option maxRecDepth 100000 in
set_option maxHeartbeats 1000000 in
theorem replyOK_any (kd pl : Int) (vl : ByteArray) (w : World) (hv : vl.size ≤ maxLen) :
    Calls Tryd.prog 70 #[.agg #[.int .i64 kd, .int .i64 pl, .string vl]] w fun e w' => e = .returned (.bool (repB kd pl vl)) ∧ Below w.heap.size w w' := by
  have B0 := hide ((Below.refl w.heap.size w).alloc (Nat.le_refl _) (.cells #[.int .i64 kd, .int .i64 pl, .string vl] 75))
  unfold maxLen at hv
  rcases Bool.eq_false_or_eq_true (inB kd 0 6) with h1 | h1
  case inr =>
    have HD : Hid (repB kd pl vl = false) := hide (by unfold repB; rw [h1]; simp)
    go_enter Tryd.func70, Tryd.ntmps70
    go_wp2_with (go_at_call 55; refine (within_any _ _ _ _).mono ?_; rintro e w' ⟨rfl, hw'⟩; have hw2 := hw'.symm; clear hw'; subst hw2)
    go_ret
    exact ⟨ret_bool (unhide HD).symm, unhide B0⟩
  rcases Bool.eq_false_or_eq_true (inB pl 0 50) with h2 | h2
  case inr =>
    have HD : Hid (repB kd pl vl = false) := hide (by unfold repB; rw [h2]; simp)
    go_enter Tryd.func70, Tryd.ntmps70
    go_wp2_with (go_at_call 55; refine (within_any _ _ _ _).mono ?_; rintro e w' ⟨rfl, hw'⟩; have hw2 := hw'.symm; clear hw'; subst hw2)
    go_ret
    exact ⟨ret_bool (unhide HD).symm, unhide B0⟩
  by_cases h3 : vl.size ≤ 60
  · have HD : Hid (repB kd pl vl = true) := hide (by unfold repB; rw [h1, h2, decide_eq_true h3]; rfl)
    have h3b : (vl.size : Int) ≤ 60 := by omega
    go_enter Tryd.func70, Tryd.ntmps70
    go_wp2_with (go_at_call 55; refine (within_any _ _ _ _).mono ?_; rintro e w' ⟨rfl, hw'⟩; have hw2 := hw'.symm; clear hw'; subst hw2)
    go_ret
    exact ⟨ret_bool (by rw [unhide HD]; try simp [h3b]), unhide B0⟩
  · have HD : Hid (repB kd pl vl = false) := hide (by unfold repB; rw [decide_eq_false h3]; simp)
    have h3b : ¬ (vl.size : Int) ≤ 60 := by omega
    go_enter Tryd.func70, Tryd.ntmps70
    go_wp2_with (go_at_call 55; refine (within_any _ _ _ _).mono ?_; rintro e w' ⟨rfl, hw'⟩; have hw2 := hw'.symm; clear hw'; subst hw2)
    go_ret
    exact ⟨ret_bool (by rw [unhide HD]; try simp [h3b]), unhide B0⟩
set_option maxRecDepth 100000 in
set_option maxHeartbeats 1000000 in
theorem sessionsOK_any (v : Value) (l : List Se) (w : World) (h : Sess w v l) (hs : ∀ i, (l.getD i default).vl.size ≤ 1048576) :
    Calls Tryd.prog 44 #[v] w fun e w' => e = .returned (.bool (sesB l)) ∧ Below w.heap.size w w' := by
  obtain ⟨a, cap, rfl, hn, hm, hc⟩ := h
  have HC := hide hc
  have HS := hide hs
  have hlm : l.length ≤ 9223372036854775807 := by unfold maxLen at hm; omega
  clear hc hs hm hn
  by_cases h3 : l.length ≤ 8
  case neg =>
    have HD : Hid (sesB l = false) := hide (by unfold sesB; rw [decide_eq_false h3]; simp)
    have h3b : (8 : Int) < (l.length : Int) := by omega
    go_enter Tryd.func44, Tryd.ntmps44
    go_wp2_with fail
    go_ret
    exact ⟨ret_bool (unhide HD).symm, Below.refl _ _⟩
  have h3b : ¬ (8 : Int) < (l.length : Int) := by omega
  go_enter Tryd.func44, Tryd.ntmps44
  go_wp2_with fail
  go_loopw [3, 11] (fun ls i wr => ∃ k : Nat, k ≤ l.length ∧ ls = .int .i64 (leastS l k) ∧ i = .int .i64 k ∧ sesTo l k ∧ Below w.heap.size w wr) (fun _ i _ => l.length - (intOf i).toNat)
  case atStart => exact ⟨0, Nat.zero_le _, rfl, rfl, fun i hi => by omega, Below.refl _ _⟩
  case round =>
    obtain ⟨k, hk, rfl, rfl, hgo, hb⟩ := hrel
    by_cases hlt : k < l.length
    · obtain ⟨b, off, rfl, hbl, hsrc⟩ : ∃ b off, a = some ⟨b, off, none⟩ ∧ b < w.heap.size ∧ ∀ i, i < l.length → w.cell? ⟨b, off + i * 5, none⟩ = some (.int .i64 (l.getD i default).id) ∧ w.cell? ⟨b, off + i * 5 + 1, none⟩ = some (.int .i64 (l.getD i default).sq) ∧ w.cell? ⟨b, off + i * 5 + 2, none⟩ = some (.int .i64 (l.getD i default).kd) ∧ w.cell? ⟨b, off + i * 5 + 3, none⟩ = some (.int .i64 (l.getD i default).pl) ∧ w.cell? ⟨b, off + i * 5 + 4, none⟩ = some (.string (l.getD i default).vl) := by
        rcases unhide HC with h0 | h1
        · omega
        · exact h1
      obtain ⟨s0, s1, s2, s3, s4⟩ := hsrc k hlt
      have e0 := (hb.cell (p := ⟨b, off + k * 5, none⟩) hbl).trans s0
      have e1 := (hb.cell (p := ⟨b, off + k * 5 + 1, none⟩) hbl).trans s1
      have e2 := (hb.cell (p := ⟨b, off + k * 5 + 2, none⟩) hbl).trans s2
      have e3 := (hb.cell (p := ⟨b, off + k * 5 + 3, none⟩) hbl).trans s3
      have e4 := (hb.cell (p := ⟨b, off + k * 5 + 4, none⟩) hbl).trans s4
      have hk0 : (0 : Int) ≤ (k : Int) := by omega
      have hk1 : (k : Int) < (l.length : Int) := by omega
      have hfz := unhide HS k
      have hbs := hb.size
      have HB := hide hb
      have HGo := hide hgo
      have hlo := leastS_lo hgo
      have HEB : Hid (sesAt l k = (inB (l.getD k default).id (leastS l k) 65535 && inB (l.getD k default).sq 0 65535 && repB (l.getD k default).kd (l.getD k default).pl (l.getD k default).vl)) := hide rfl
      have HLS : Hid (leastS l (k + 1) = (l.getD k default).id + 1) := hide rfl
      clear hsrc s0 s1 s2 s3 s4 hb hgo
      generalize leastS l k = ls at *
      generalize l.getD k default = f at *
      obtain ⟨f0, f1, f2, f3, f4⟩ := f
      dsimp only at e0 e1 e2 e3 e4 hfz HEB HLS
      have hnm : f4.size ≤ maxLen := by unfold maxLen; omega
      have b0 := hide ((Below.refl wr.heap.size wr).alloc (Nat.le_refl _) (.cells #[.int .i64 f0, .int .i64 f1, .int .i64 f2, .int .i64 f3, .string f4] 77))
      have y0 := hide (Blk.new wr #[.int .i64 f0, .int .i64 f1, .int .i64 f2, .int .i64 f3, .string f4] 77 wr.heap.size rfl)
      have BW := hide ((unhide HB).trans ((unhide b0).mono hbs))
      rcases Bool.eq_false_or_eq_true (inB f0 ls 65535) with hi | hi
      case inr =>
        have HD := hide (ses_bad hlt (by rw [unhide HEB, hi]; simp))
        go_wp2_with (go_at_call 55; refine (within_any _ _ _ _).mono ?_; rintro e w' ⟨rfl, hw'⟩; have hw2 := hw'.symm; clear hw'; subst hw2)
        go_ret
        exact ⟨ret_bool (unhide HD).symm, unhide BW⟩
      rcases Bool.eq_false_or_eq_true (inB f1 0 65535) with hj | hj
      case inr =>
        have HD := hide (ses_bad hlt (by rw [unhide HEB, hj]; simp))
        go_wp2_with (go_at_call 55; refine (within_any _ _ _ _).mono ?_; rintro e w' ⟨rfl, hw'⟩; have hw2 := hw'.symm; clear hw'; subst hw2)
        go_ret
        exact ⟨ret_bool (unhide HD).symm, unhide BW⟩
      have hi2 := (inB_iff.1 hi).2
      have HR := hide (fun wx => replyOK_any f2 f3 f4 wx hnm)
      go_wp2_with (go_at_call 55; refine (within_any _ _ _ _).mono ?_; rintro e w' ⟨rfl, hw'⟩; have hw2 := hw'.symm; clear hw'; subst hw2)
      generalize wr.alloc (.cells #[.int .i64 f0, .int .i64 f1, .int .i64 f2, .int .i64 f3, .string f4] 77) = w1 at *
      refine (unhide HR w1).mono ?_
      rintro e w2 ⟨rfl, hb2⟩
      have Y2 := (unhide y0).below hb2
      have g0 := Y2.cell 0 rfl
      have HB2 := hide ((unhide BW).trans (hb2.mono (unhide BW).size))
      clear hb2 Y2 e0 e1 e2 e3 e4
      rcases Bool.eq_false_or_eq_true (repB f2 f3 f4) with ho | ho
      case inr =>
        have HD := hide (ses_bad hlt (by rw [unhide HEB, ho]; simp))
        rw [ho]
        go_wp2_with fail
        go_ret
        exact ⟨ret_bool (unhide HD).symm, unhide HB2⟩
      rw [ho]
      have HN := hide ((unhide HGo).next (by rw [unhide HEB, ho, hi, hj]; rfl))
      have hw0 : IntKind.i64.wrap (f0 + 1) = f0 + 1 := wrapSes _ (by have := (inB_iff.1 hi).1; omega) (by omega)
      go_wp2_with fail
      refine ⟨⟨k + 1, by omega, by rw [unhide HLS], by go_num, unhide HN, unhide HB2⟩, ?_⟩
      simp [intOf]; omega
    · obtain rfl : k = l.length := by omega
      have HD := hide (ses_all h3 hgo)
      have HBW := hide hb
      clear hb hgo
      go_wp2_with fail
      go_ret
      exact ⟨ret_bool (unhide HD).symm, unhide HBW⟩
end Go.Proofs.YtinpoaghedhknaaDoor
