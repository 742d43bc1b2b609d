/- impl.StateOK, walked. -/
import Derived.Test.YtglkgmijcefjkaaSta
import Derived.Test.YtglkgmijcefjkaaEnt
import Derived.Deep.RegionHeld3
namespace Go.Proofs.Ytglkgmijcefjkaa
open Go.ChangeShapes Go.WideShapes Go.ChangeAt Go.RowKit
set_option linter.unusedVariables false

/-- The least term that entry i may have. -/
def leastT (l : List En) : Nat → Int
  | 0 => 0
  | i + 1 => (l.getD i default).t
/-- Entry i is right, its term not below the one ahead of it and not above the state's. -/
def entB (tm : Int) (l : List En) (i : Nat) : Bool := entOK (l.getD i default).t (l.getD i default).k (l.getD i default).d && inB (l.getD i default).t (leastT l i) tm
def entTo (tm : Int) (l : List En) (k : Nat) : Prop := ∀ i, i < k → entB tm l i = true
theorem entTo.next {tm : Int} {l : List En} {k : Nat} (h : entTo tm l k) (hk : entB tm l k = true) : entTo tm l (k + 1) := fun i hi => by
  by_cases e : i = k
  · subst e; exact hk
  · exact h i (by omega)
def stateB (tm vo : Int) (l : List En) : Bool := inB tm 0 1000000 && inB vo (-1) 6 && decide (l.length ≤ 60) && (List.range l.length).all (entB tm l)
theorem state_bad {tm vo : Int} {l : List En} {k : Nat} (hk : k < l.length) (h : entB tm l k = false) : stateB tm vo l = false := by
  have : (List.range l.length).all (entB tm l) = false := by
    rw [List.all_eq_false]; exact ⟨k, by simpa using hk, by simp [h]⟩
  unfold stateB; rw [this]; simp
theorem state_all {tm vo : Int} {l : List En} (h1 : inB tm 0 1000000 = true) (h2 : inB vo (-1) 6 = true) (h3 : l.length ≤ 60) (h : entTo tm l l.length) : stateB tm vo l = true := by
  have : (List.range l.length).all (entB tm l) = true := by
    rw [List.all_eq_true]; exact fun i hi => h i (by simpa using hi)
  unfold stateB; rw [this, h1, h2, decide_eq_true h3]; simp

set_option maxRecDepth 100000 in
set_option maxHeartbeats 1000000 in
theorem implStateOK_any (tm vo : Int) (v : Value) (l : List En) (w : World) (h : Ens w v l) (hs : ∀ i, (l.getD i default).d.size ≤ 1048576) :
    Calls Try.prog 47 #[.agg #[.int .i64 tm, .int .i64 vo, v]] w fun e w' => e = .returned (.bool (stateB tm vo l)) ∧ Below w.heap.size w w' := by
  obtain ⟨a, cap, rfl, hn, hm, hc⟩ := h
  have HC := hide hc
  have HS := hide hs
  clear hc hs
  have B0 := hide ((Below.refl w.heap.size w).alloc (Nat.le_refl _) (.cells #[.int .i64 tm, .int .i64 vo, .slice a l.length cap] 69))
  have X0 := hide (Blk.new w #[.int .i64 tm, .int .i64 vo, .slice a l.length cap] 69 w.heap.size rfl)
  rcases Bool.eq_false_or_eq_true (inB tm 0 1000000) with h1 | h1
  case inr =>
    have HD : Hid (stateB tm vo l = false) := hide (by unfold stateB; rw [h1]; simp)
    go_enter Try.func47, Try.ntmps47
    go_wp2_with (go_at_call 26; refine (within_any _ _ _ _).mono ?_; rintro e w' ⟨rfl, hw'⟩; have hw2 := hw'.symm; clear hw'; subst hw2)
    go_ret
    exact ⟨ret_bool (unhide HD).symm, unhide B0⟩
  rcases Bool.eq_false_or_eq_true (inB vo (-1) 6) with h2 | h2
  case inr =>
    have HD : Hid (stateB tm vo l = false) := hide (by unfold stateB; rw [h2]; simp)
    go_enter Try.func47, Try.ntmps47
    go_wp2_with (go_at_call 26; refine (within_any _ _ _ _).mono ?_; rintro e w' ⟨rfl, hw'⟩; have hw2 := hw'.symm; clear hw'; subst hw2)
    go_ret
    exact ⟨ret_bool (unhide HD).symm, unhide B0⟩
  by_cases h3 : l.length ≤ 60
  case neg =>
    have HD : Hid (stateB tm vo l = false) := hide (by unfold stateB; rw [decide_eq_false h3]; simp)
    have h3b : (60 : Int) < (l.length : Int) := by omega
    go_enter Try.func47, Try.ntmps47
    go_wp2_with (go_at_call 26; refine (within_any _ _ _ _).mono ?_; rintro e w' ⟨rfl, hw'⟩; have hw2 := hw'.symm; clear hw'; subst hw2)
    go_ret
    exact ⟨ret_bool (unhide HD).symm, unhide B0⟩
  have h3b : ¬ (60 : Int) < (l.length : Int) := by omega
  go_enter Try.func47, Try.ntmps47
  go_wp2_with (go_at_call 26; refine (within_any _ _ _ _).mono ?_; rintro e w' ⟨rfl, hw'⟩; have hw2 := hw'.symm; clear hw'; subst hw2)
  generalize w.alloc (.cells #[.int .i64 tm, .int .i64 vo, .slice a l.length cap] 69) = w0 at *
  have c0 := (unhide X0).cell 0 rfl
  go_loopw [3, 25] (fun ls i wr => ∃ k : Nat, k ≤ l.length ∧ ls = .int .i64 (leastT l k) ∧ i = .int .i64 k ∧ entTo tm l k ∧ Below (w.heap.size + 1) w0 wr) (fun _ i _ => l.length - (intOf i).toNat)
  case atStart => exact ⟨0, Nat.zero_le _, rfl, rfl, fun i hi => by omega, Below.refl _ _⟩
  case round =>
    obtain ⟨k, hk, rfl, rfl, hgo, hb⟩ := hrel
    have hbw : Below w.heap.size w wr := (unhide B0).trans (hb.mono (by omega))
    by_cases hlt : k < l.length
    · obtain ⟨b, off, rfl, hbl, hsrc⟩ : ∃ b off, a = some ⟨b, off, none⟩ ∧ b < w.heap.size ∧ ∀ i, i < l.length → w.cell? ⟨b, off + i * 3, none⟩ = some (.int .i64 (l.getD i default).t) ∧ w.cell? ⟨b, off + i * 3 + 1, none⟩ = some (.int .i64 (l.getD i default).k) ∧ w.cell? ⟨b, off + i * 3 + 2, none⟩ = some (.string (l.getD i default).d) := by
        rcases unhide HC with h0 | h1
        · omega
        · exact h1
      obtain ⟨s0, s1, s2⟩ := hsrc k hlt
      have e0 := (hbw.cell (p := ⟨b, off + k * 3, none⟩) hbl).trans s0
      have e1 := (hbw.cell (p := ⟨b, off + k * 3 + 1, none⟩) hbl).trans s1
      have e2 := (hbw.cell (p := ⟨b, off + k * 3 + 2, none⟩) hbl).trans s2
      have d0 := (hb.cell (p := ⟨w.heap.size, 0, none⟩) (by simp)).trans c0
      have hk0 : (0 : Int) ≤ (k : Int) := by omega
      have hk1 : (k : Int) < (l.length : Int) := by omega
      have hfz := unhide HS k
      have hbs := hbw.size
      have hbs2 := hb.size
      have hz0 := (unhide X0).1
      have HB := hide hb
      have HGo := hide hgo
      have HEB : Hid (entB tm l k = (entOK (l.getD k default).t (l.getD k default).k (l.getD k default).d && inB (l.getD k default).t (leastT l k) tm)) := hide rfl
      have HLS : Hid (leastT l (k + 1) = (l.getD k default).t) := hide rfl
      clear hsrc s0 s1 s2 hb hbw hgo
      generalize leastT l k = ls at *
      generalize l.getD k default = f at *
      obtain ⟨ft, fk, fd⟩ := f
      dsimp only at e0 e1 e2 hfz HEB HLS
      have hnm : fd.size ≤ maxLen := by unfold maxLen; omega
      have b0 := hide ((Below.refl wr.heap.size wr).alloc (Nat.le_refl _) (.cells #[.int .i64 ft, .int .i64 fk, .string fd] 63))
      have y0 := hide (Blk.new wr #[.int .i64 ft, .int .i64 fk, .string fd] 63 wr.heap.size rfl)
      go_wp2_with fail
      generalize wr.alloc (.cells #[.int .i64 ft, .int .i64 fk, .string fd] 63) = w1 at *
      have hbs3 := (unhide b0).size
      refine (implEntryOK_any ft fk fd w1 hnm).mono ?_
      rintro e w2 ⟨rfl, hb2⟩
      have Y2 := (unhide y0).below hb2
      have g0 := Y2.cell 0 rfl
      have g1 := (hb2.cell (p := ⟨w.heap.size, 0, none⟩) (by simp; omega)).trans (((unhide b0).cell (p := ⟨w.heap.size, 0, none⟩) (by simp; omega)).trans d0)
      have HB2 := hide ((unhide HB).trans (((unhide b0).trans (hb2.mono hbs3)).mono (by omega)))
      have HBW := hide ((unhide B0).trans ((unhide HB2).mono (by omega)))
      clear hb2 Y2 d0 e0 e1 e2
      rcases Bool.eq_false_or_eq_true (entOK ft fk fd) with ho | ho
      case inr =>
        have HD := hide (state_bad (tm := tm) (vo := vo) hlt (by rw [unhide HEB, ho]; simp))
        rw [ho]
        go_wp2_with fail
        go_ret
        exact ⟨ret_bool (unhide HD).symm, unhide HBW⟩
      rw [ho]
      rcases Bool.eq_false_or_eq_true (inB ft ls tm) with hi | hi
      case inr =>
        have HD := hide (state_bad (tm := tm) (vo := vo) hlt (by rw [unhide HEB, hi]; simp))
        go_wp2_with (go_at_call 26; refine (within_any _ _ _ _).mono ?_; rintro e w' ⟨rfl, hw'⟩; have hw2 := hw'.symm; clear hw'; subst hw2)
        go_ret
        exact ⟨ret_bool (unhide HD).symm, unhide HBW⟩
      have HN := hide ((unhide HGo).next (by rw [unhide HEB, ho, hi]; rfl))
      go_wp2_with (go_at_call 26; refine (within_any _ _ _ _).mono ?_; rintro e w' ⟨rfl, hw'⟩; have hw2 := hw'.symm; clear hw'; subst hw2)
      refine ⟨⟨k + 1, by omega, by rw [unhide HLS], by go_num, unhide HN, unhide HB2⟩, ?_⟩
      simp [intOf]; omega
    · obtain rfl : k = l.length := by omega
      have HD := hide (state_all (vo := vo) h1 h2 h3 hgo)
      have HBW := hide hbw
      clear hb hbw hgo
      go_wp2_with fail
      go_ret
      exact ⟨ret_bool (unhide HD).symm, unhide HBW⟩
end Go.Proofs.Ytglkgmijcefjkaa
