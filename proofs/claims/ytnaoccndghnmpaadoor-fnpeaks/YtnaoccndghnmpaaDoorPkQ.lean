/- PeaksOK: impl's and the specification's. -/
import Derived.Test.YtnaoccndghnmpaaDoorPkO
namespace Go.Proofs.YtnaoccndghnmpaaDoor
open Go.ChangeShapes Go.WideShapes Go.ChangeAt Go.RowKit
set_option linter.unusedVariables false
set_option linter.unusedSimpArgs false

theorem ones_any (x : Int) (w : World) (h0 : 1 ≤ x) (h1 : x ≤ 64) :
    Calls Tryd.prog 58 #[.int .u64 x] w fun e w' => ∃ r : Int, e = .returned (.int .i64 r) ∧ (r == 1) = pow7 x ∧ w' = w := by
  go_enter Tryd.func58, Tryd.ntmps58
  go_wp2_with fail
  refine (ones64_any x w h0 h1).mono ?_
  rintro e w' ⟨r, rfl, hr, hw⟩
  subst w'
  have HR := hide hr
  clear hr
  go_wp2_with fail
  go_ret
  exact ⟨r, rfl, unhide HR, rfl⟩
/-- A slice of peaks that is there, with room for its length. -/
structure PA (w : World) (b off cap : Nat) (l : List Pk) : Prop where
  le : l.length ≤ cap
  mx : cap ≤ maxLen
  lt : b < w.heap.size
  cell : ∀ i, i < l.length → w.cell? ⟨b, off + i * 2, none⟩ = some (.int .i64 (l.getD i default).s) ∧ w.cell? ⟨b, off + i * 2 + 1, none⟩ = some (.string (l.getD i default).h)
theorem PA.below {w w' : World} {b off cap : Nat} {l : List Pk} (h : PA w b off cap l) (hb : Below w.heap.size w w') : PA w' b off cap l :=
  ⟨h.le, h.mx, Nat.lt_of_lt_of_le h.lt hb.size, fun i hi => ⟨(hb.cell (p := ⟨b, off + i * 2, none⟩) h.lt).trans (h.cell i hi).1, (hb.cell (p := ⟨b, off + i * 2 + 1, none⟩) h.lt).trans (h.cell i hi).2⟩⟩
theorem PA.own {B : Nat} {w : World} {g cap : Nat} {l : List Pk} (h : OwnP B w (.slice (some ⟨g, 0, none⟩) l.length cap) l) : PA w g 0 cap l := by
  rcases own_shape h with ⟨hv, _⟩ | ⟨g', cap', hv, hb, hlt, hn, hm⟩
  · cases hv
  · simp only [Value.slice.injEq, Option.some.injEq, Addr.mk.injEq] at hv
    obtain ⟨⟨rfl, _⟩, _, rfl⟩ := hv
    exact ⟨hn, hm, hlt, fun i hi => by simpa using OwnP.cells h i hi rfl⟩
/-- The first k are as they must be. -/
def okTo (l : List Pk) : Nat → Bool
  | 0 => true
  | k + 1 => okTo l k && (pow7 (l.getD k default).s && (decide ((l.getD k default).h.size = 32) && (decide (k = 0) || decide ((l.getD k default).s < (l.getD (k - 1) default).s))))
def sumTo (l : List Pk) : Nat → Int
  | 0 => 0
  | k + 1 => sumTo l k + (l.getD k default).s
def peaksB (l : List Pk) : Bool := okTo l l.length && decide (sumTo l l.length ≤ 64)
theorem ok_last (l : List Pk) : ∀ k, okTo l (k + 1) = true → 1 ≤ (l.getD k default).s ∧ (l.getD k default).s + (k : Int) ≤ 64 := by
  intro k
  induction k with
  | zero =>
    intro h
    simp only [okTo, Bool.and_eq_true] at h
    have := pow7_in h.2.1
    omega
  | succ k ih =>
    intro h
    have h' : okTo l (k + 1) = true := by
      have : okTo l (k + 1 + 1) = (okTo l (k + 1) && _) := rfl
      rw [this, Bool.and_eq_true] at h; exact h.1
    have i := ih h'
    have h2 : okTo l (k + 1 + 1) = (okTo l (k + 1) && (pow7 (l.getD (k + 1) default).s && (decide ((l.getD (k + 1) default).h.size = 32) && (decide (k + 1 = 0) || decide ((l.getD (k + 1) default).s < (l.getD (k + 1 - 1) default).s))))) := rfl
    rw [h2] at h
    simp only [Bool.and_eq_true, Bool.or_eq_true, decide_eq_true_eq, Nat.add_sub_cancel] at h
    have p := pow7_in h.2.1
    have q := h.2.2.2
    rcases q with q | q
    · omega
    · omega
theorem ok_len {l : List Pk} {k : Nat} (h : okTo l k = true) : k ≤ 64 := by
  cases k with
  | zero => omega
  | succ k => have := ok_last l k h; omega
theorem ok_down (l : List Pk) : ∀ k j, j ≤ k → okTo l k = true → okTo l j = true := by
  intro k
  induction k with
  | zero => intro j hj h; obtain rfl : j = 0 := by omega
            exact h
  | succ k ih =>
    intro j hj h
    by_cases e : j = k + 1
    · subst e; exact h
    · have : okTo l (k + 1) = (okTo l k && _) := rfl
      rw [this, Bool.and_eq_true] at h
      exact ih j (by omega) h.1
theorem ok_no (l : List Pk) {k : Nat} (hk : k ≤ l.length) (h : okTo l k = false) : peaksB l = false := by
  unfold peaksB
  rcases Bool.eq_false_or_eq_true (okTo l l.length) with e | e
  · rw [ok_down l l.length k hk e] at h; cases h
  · rw [e]; rfl
theorem sum_in (l : List Pk) : ∀ k, okTo l k = true → 0 ≤ sumTo l k ∧ sumTo l k ≤ 64 * (k : Int) := by
  intro k
  induction k with
  | zero => intro _; simp [sumTo]
  | succ k ih =>
    intro h
    have i := ih (ok_down l _ _ (by omega) h)
    have p := ok_last l k h
    have e : sumTo l (k + 1) = sumTo l k + (l.getD k default).s := rfl
    omega

set_option maxRecDepth 100000 in
theorem below1_any (a : Int) (f : Pk) (w : World) (h0 : 0 ≤ a) (h1 : a ≤ 100000) (h2 : 0 ≤ f.s) (h3 : f.s ≤ 64) :
    Calls Tryd.prog 82 #[.int .i64 a, .agg #[.int .i64 f.s, .string f.h]] w fun e w' => e = .returned (.int .i64 (a + f.s)) ∧ Below w.heap.size w w' := by
  obtain ⟨s, h⟩ := f
  dsimp only at *
  have B0 := hide ((Below.refl w.heap.size w).alloc (Nat.le_refl _) (.cells #[.int .i64 s, .string h] 81))
  go_enter Tryd.func82, Tryd.ntmps82
  go_wp2_with fail
  go_ret
  exact ⟨ret_int (by go_num), unhide B0⟩
set_option maxRecDepth 100000 in
set_option maxHeartbeats 2000000 in
theorem foldPI_any (l : List Pk) (b off cap : Nat) (w : World) (hs : PA w b off cap l) (hok : okTo l l.length = true) :
    Calls Tryd.prog 81 #[.slice (some ⟨b, off, none⟩) l.length cap, .int .i64 0, .func (.func 82) #[] #[]] w fun e w' => e = .returned (.int .i64 (sumTo l l.length)) ∧ Below w.heap.size w w' := by
  have hll := ok_len hok
  have HS := hide hs
  have HOK := hide hok
  clear hs hok
  go_enter Tryd.func81, Tryd.ntmps81
  go_wp2_with fail
  go_loopw [1, 11] (fun ov i wr => ∃ (k : Nat) (x : Int), k ≤ l.length ∧ i = .int .i64 k ∧ ov = .int .i64 x ∧ x = sumTo l k ∧ Below w.heap.size w wr) (fun _ i _ => l.length - (intOf i).toNat)
  case atStart => exact ⟨0, 0, Nat.zero_le _, rfl, rfl, rfl, Below.refl _ _⟩
  case round =>
    obtain ⟨k, x, hk, rfl, rfl, hx, hb⟩ := hrel
    by_cases hlt : k < l.length
    · obtain ⟨c0, c1⟩ := ((unhide HS).below hb).cell k hlt
      have hk0 : (0 : Int) ≤ (k : Int) := by omega
      have hk1 : (k : Int) < (l.length : Int) := by omega
      have s1 := sum_in l k (ok_down l _ _ (by omega) (unhide HOK))
      have s2 := ok_last l k (ok_down l _ _ (by omega) (unhide HOK))
      have HE : Hid (sumTo l (k + 1) = sumTo l k + (l.getD k default).s) := rfl
      rw [← hx] at HE s1
      have HB := hide hb
      have hbs := hb.size
      clear hb hx
      generalize l.getD k default = f at *
      have HC := hide (fun wx => below1_any x f wx (by omega) (by omega) (by omega) (by omega))
      obtain ⟨s, h⟩ := f
      dsimp only at c0 c1 HE HC s2
      have B1 := hide ((unhide HB).alloc hbs (.cells #[.int .i64 s, .string h] 81))
      go_wp2_with fail
      generalize wr.alloc (.cells #[.int .i64 s, .string h] 81) = w1 at *
      refine (unhide HC w1).mono ?_
      rintro e w2 ⟨rfl, hb2⟩
      have B2 := hide ((unhide B1).trans (hb2.mono (unhide B1).size))
      clear hb2
      go_wp2_with fail
      refine ⟨⟨k + 1, x + s, by omega, by go_num, rfl, (unhide HE).symm, unhide B2⟩, ?_⟩
      simp [intOf]; omega
    · obtain rfl : k = l.length := by omega
      have R := hide (And.intro hb hx)
      clear hb hx
      go_wp2_with fail
      go_ret
      exact ⟨ret_int (unhide R).2, (unhide R).1⟩
set_option maxRecDepth 100000 in
theorem leavesBelow_any (l : List Pk) (b off cap : Nat) (w : World) (hs : PA w b off cap l) (hok : okTo l l.length = true) :
    Calls Tryd.prog 55 #[.slice (some ⟨b, off, none⟩) l.length cap] w fun e w' => e = .returned (.int .i64 (sumTo l l.length)) ∧ Below w.heap.size w w' := by
  have HF := hide (foldPI_any l b off cap w hs hok)
  clear hs hok
  generalize sumTo l l.length = z at *
  go_enter Tryd.func55, Tryd.ntmps55
  go_wp2_with fail
  refine (unhide HF).mono ?_
  rintro e w2 ⟨rfl, hb2⟩
  have K := hide hb2
  clear hb2
  go_wp2_with fail
  go_ret
  exact ⟨rfl, unhide K⟩

/-- What the next size may be at most. -/
def most (l : List Pk) : Nat → Int
  | 0 => 64
  | k + 1 => (l.getD k default).s - 1
theorem most_in (l : List Pk) (k : Nat) (h : okTo l k = true) : 0 ≤ most l k ∧ most l k ≤ 64 := by
  cases k with
  | zero => simp [most]
  | succ k => have := ok_last l k h; show 0 ≤ (l.getD k default).s - 1 ∧ (l.getD k default).s - 1 ≤ 64; omega
theorem ok_next (l : List Pk) (k : Nat) (h : okTo l k = true) : okTo l (k + 1) = (inB (l.getD k default).s 1 (most l k) && (pow7 (l.getD k default).s && decide ((l.getD k default).h.size = 32))) := by
  have e : okTo l (k + 1) = (okTo l k && (pow7 (l.getD k default).s && (decide ((l.getD k default).h.size = 32) && (decide (k = 0) || decide ((l.getD k default).s < (l.getD (k - 1) default).s))))) := rfl
  rw [e, h, Bool.true_and]
  rcases Bool.eq_false_or_eq_true (pow7 (l.getD k default).s) with hp | hp
  · have p := pow7_in hp
    rw [hp, Bool.true_and, Bool.true_and]
    rcases Bool.eq_false_or_eq_true (decide ((l.getD k default).h.size = 32)) with hh | hh
    · rw [hh, Bool.true_and, Bool.and_true]
      cases k with
      | zero =>
        show (decide ((0 : Nat) = 0) || _) = (decide (1 ≤ (l.getD 0 default).s) && decide ((l.getD 0 default).s ≤ 64))
        generalize (l.getD 0 default).s = x at *
        rw [decide_eq_true (show 1 ≤ x by omega), decide_eq_true (show x ≤ 64 by omega)]; simp
      | succ k =>
        show (decide (k + 1 = 0) || decide ((l.getD (k + 1) default).s < (l.getD k default).s)) = (decide (1 ≤ (l.getD (k + 1) default).s) && decide ((l.getD (k + 1) default).s ≤ (l.getD k default).s - 1))
        generalize (l.getD (k + 1) default).s = x at *
        generalize (l.getD k default).s = y at *
        rw [decide_eq_true (show 1 ≤ x by omega), decide_eq_false (show ¬ k + 1 = 0 by omega), Bool.true_and, Bool.false_or]
        by_cases hxy : x < y
        · rw [decide_eq_true hxy, decide_eq_true (show x ≤ y - 1 by omega)]
        · rw [decide_eq_false hxy, decide_eq_false (show ¬ x ≤ y - 1 by omega)]
    · rw [hh]; simp
  · rw [hp]; simp
set_option maxRecDepth 100000 in
set_option maxHeartbeats 2000000 in
theorem implPeaks_any (l : List Pk) (b off cap : Nat) (w : World) (hs : PA w b off cap l) (hz : ∀ i, (l.getD i default).h.size ≤ 1048576) :
    Calls Tryd.prog 22 #[.slice (some ⟨b, off, none⟩) l.length cap] w fun e w' => e = .returned (.bool (peaksB l)) ∧ Below w.heap.size w w' := by
  have hle : l.length ≤ 9223372036854775807 := by have := hs.le; have := hs.mx; unfold maxLen at this; omega
  have HS := hide hs
  have HZ := hide hz
  clear hs hz
  go_enter Tryd.func22, Tryd.ntmps22
  go_wp2_with fail
  go_loopw [3, 8] (fun ov i wr => ∃ (k : Nat) (x : Int), k ≤ l.length ∧ i = .int .i64 k ∧ ov = .int .i64 x ∧ x = most l k ∧ okTo l k = true ∧ Below w.heap.size w wr) (fun _ i _ => l.length - (intOf i).toNat)
  case atStart => exact ⟨0, 64, Nat.zero_le _, rfl, rfl, rfl, rfl, Below.refl _ _⟩
  case round =>
    obtain ⟨k, x, hk, rfl, rfl, hx, hok, hb⟩ := hrel
    by_cases hlt : k < l.length
    · obtain ⟨c0, c1⟩ := ((unhide HS).below hb).cell k hlt
      have hk0 : (0 : Int) ≤ (k : Int) := by omega
      have hk1 : (k : Int) < (l.length : Int) := by omega
      have hmi := most_in l k hok
      have HN := hide (ok_next l k hok)
      have HNO := hide (ok_no l (k := k + 1) (by omega))
      have HM : Hid (most l (k + 1) = (l.getD k default).s - 1) := rfl
      have hzk := unhide HZ k
      rw [← hx] at HN hmi
      have HB := hide hb
      have hbs := hb.size
      clear hb hx hok
      generalize l.getD k default = f at *
      obtain ⟨s, h⟩ := f
      dsimp only at c0 c1 HN HM hzk
      have B1 := hide ((unhide HB).alloc hbs (.cells #[.int .i64 s, .string h] 81))
      have X1 := hide (Blk.new wr #[.int .i64 s, .string h] 81 wr.heap.size rfl)
      have I1 := hide (fun wx => within_any s 1 x wx)
      have I2 := hide (inB_iff (n := s) (lo := 1) (hi := x))
      generalize inB s 1 x = b1 at *
      go_wp2_with fail
      generalize wr.alloc (.cells #[.int .i64 s, .string h] 81) = w1 at *
      have x0 := (unhide X1).cell 0 rfl
      have x1 := (unhide X1).cell 1 rfl
      refine (unhide I1 w1).mono ?_
      rintro e w9 ⟨rfl, hw9⟩
      subst w9
      cases b1
      · have HF := hide (unhide HNO (by rw [unhide HN]; rfl))
        go_wp2_with fail
        go_ret
        exact ⟨ret_bool (unhide HF).symm, unhide B1⟩
      obtain ⟨s0, s1⟩ := (unhide I2).1 rfl
      rw [Bool.true_and] at HN
      have HC := hide (ones_any s w1 s0 (by omega))
      go_wp2_with fail
      refine (unhide HC).mono ?_
      rintro e w9 ⟨r, rfl, hr, hw9⟩
      subst w9
      have HRR := hide hr
      clear hr HC
      by_cases hr1 : r = 1
      · have hp : pow7 s = true := by rw [← unhide HRR, hr1]; rfl
        rw [hp, Bool.true_and] at HN
        subst hr1
        clear hp
        have HH := hide (notHash_any h w1 (by unfold maxLen; omega))
        go_wp2_with fail
        refine (unhide HH).mono ?_
        rintro e w9 ⟨rfl, hw9⟩
        subst w9
        clear HH
        by_cases h32 : h.size = 32
        · have hb : (!decide (h.size = 32)) = false := by simp [h32]
          rw [hb]
          have HT : Hid (okTo l (k + 1) = true) := hide (by rw [unhide HN]; simp [h32])
          clear hb
          go_wp2_with fail
          refine ⟨⟨k + 1, s - 1, by omega, by go_num, by go_num, (unhide HM).symm, unhide HT, unhide B1⟩, ?_⟩
          simp [intOf]; omega
        · have hb : (!decide (h.size = 32)) = true := by simp [h32]
          rw [hb]
          have HF := hide (unhide HNO (by rw [unhide HN]; simp [h32]))
          clear hb
          go_wp2_with fail
          go_ret
          exact ⟨ret_bool (unhide HF).symm, unhide B1⟩
      · have hp : pow7 s = false := by rw [← unhide HRR]; simp [hr1]
        have HF := hide (unhide HNO (by rw [unhide HN, hp]; rfl))
        clear hp
        go_wp2_with fail
        go_ret
        exact ⟨ret_bool (unhide HF).symm, unhide B1⟩
    · obtain rfl : k = l.length := by omega
      have HL := hide (leavesBelow_any l b off cap wr ((unhide HS).below hb) hok)
      have HE : Hid (peaksB l = decide (sumTo l l.length ≤ 64)) := hide (by unfold peaksB; rw [hok]; rfl)
      have HB := hide hb
      have hbs := hb.size
      clear hb hx hok
      generalize sumTo l l.length = z at *
      go_wp2_with fail
      refine (unhide HL).mono ?_
      rintro e w2 ⟨rfl, hb2⟩
      have K := hide ((unhide HB).trans (hb2.mono hbs))
      clear hb2 HL
      go_wp2_with fail
      go_ret
      exact ⟨ret_bool (unhide HE).symm, unhide K⟩
theorem and_pow : ∀ n : Fin 65, 1 ≤ n.val → (bits .and .i64 (n.val : Int) ((n.val : Int) - 1) == 0) = pow7 (n.val : Int) := by decide +kernel
theorem ok_next2 (l : List Pk) (k : Nat) (h : okTo l k = true) : okTo l (k + 1) = (inB (l.getD k default).s 1 64 && (pow7 (l.getD k default).s && (decide ((l.getD k default).h.size = 32) && (decide (k = 0) || decide ((l.getD k default).s < (l.getD (k - 1) default).s))))) := by
  have e : okTo l (k + 1) = (okTo l k && (pow7 (l.getD k default).s && (decide ((l.getD k default).h.size = 32) && (decide (k = 0) || decide ((l.getD k default).s < (l.getD (k - 1) default).s))))) := rfl
  rw [e, h, Bool.true_and]
  rcases Bool.eq_false_or_eq_true (pow7 (l.getD k default).s) with hp | hp
  · have p := pow7_in hp
    rw [show inB (l.getD k default).s 1 64 = true from inB_iff.2 p, Bool.true_and]
  · rw [hp]; simp
end Go.Proofs.YtnaoccndghnmpaaDoor
