/- Where a log is split: splitPlace, l06Half; what is no hash: hashesFault, l06Code, worstFault. -/
import Derived.Test.YtinpoaghedhknaaDoorStrO
import Derived.Test.YtinpoaghedhknaaDoorIn
import Derived.Test.YtinpoaghedhknaaDoorHf
import Derived.Deep.RegionHeld3
import Derived.Lib.BitFns
namespace Go.Proofs.YtinpoaghedhknaaDoor
open Go.ChangeShapes Go.WideShapes Go.ChangeAt Go.RowKit
set_option linter.unusedVariables false

/-- The greatest power of two below n. -/
def half (n : Nat) : Nat := 2 ^ (Lib.bitLen (n - 1) - 1)
theorem half_all : ∀ n : Fin 65, 2 ≤ n.val → half n.val < n.val ∧ 1 ≤ half n.val ∧ n.val ≤ 2 * half n.val := by decide +kernel
theorem half_facts {n : Nat} (h2 : 2 ≤ n) (h : n ≤ 64) : half n < n ∧ 1 ≤ half n ∧ n ≤ 2 * half n := half_all ⟨n, by omega⟩ h2
theorem half_uniq : ∀ n : Fin 65, ∀ j : Fin 7, 2 ≤ n.val → 2 ^ j.val < n.val → n.val ≤ 2 * 2 ^ j.val → 2 ^ j.val = half n.val := by decide +kernel
theorem bl_all : ∀ x : Fin 64, 1 ≤ x.val → Lib.bitLen x.val = 1 ∨ Lib.bitLen x.val = 2 ∨ Lib.bitLen x.val = 3 ∨ Lib.bitLen x.val = 4 ∨ Lib.bitLen x.val = 5 ∨ Lib.bitLen x.val = 6 := by decide +kernel

theorem wrap64_small {n : Int} (h0 : 0 ≤ n) (h1 : n < 1000000) : wrap64 n = n := by unfold wrap64; omega
set_option maxRecDepth 100000 in
theorem fold_tab : (⟨(([0, 1, 2, 2, 3, 3, 3, 3, 4, 4, 4, 4, 4, 4, 4, 4, 5, 5, 5, 5, 5, 5, 5, 5, 5, 5, 5, 5, 5, 5, 5, 5, 6, 6, 6, 6, 6, 6, 6, 6, 6, 6, 6, 6, 6, 6, 6, 6, 6, 6, 6, 6, 6, 6, 6, 6, 6, 6, 6, 6, 6, 6, 6, 6].append [7, 7, 7, 7, 7, 7, 7, 7, 7, 7, 7, 7, 7, 7, 7, 7, 7, 7, 7, 7, 7, 7, 7, 7, 7, 7, 7, 7, 7, 7, 7, 7, 7, 7, 7, 7, 7, 7, 7, 7, 7, 7, 7, 7, 7, 7, 7, 7, 7, 7, 7, 7, 7, 7, 7, 7, 7, 7, 7, 7, 7, 7, 7, 7]).append ([8, 8, 8, 8, 8, 8, 8, 8, 8, 8, 8, 8, 8, 8, 8, 8, 8, 8, 8, 8, 8, 8, 8, 8, 8, 8, 8, 8, 8, 8, 8, 8, 8, 8, 8, 8, 8, 8, 8, 8, 8, 8, 8, 8, 8, 8, 8, 8, 8, 8, 8, 8, 8, 8, 8, 8, 8, 8, 8, 8, 8, 8, 8, 8].append [8, 8, 8, 8, 8, 8, 8, 8, 8, 8, 8, 8, 8, 8, 8, 8, 8, 8, 8, 8, 8, 8, 8, 8, 8, 8, 8, 8, 8, 8, 8, 8, 8, 8, 8, 8, 8, 8, 8, 8, 8, 8, 8, 8, 8, 8, 8, 8, 8, 8, 8, 8, 8, 8, 8, 8, 8, 8, 8, 8, 8, 8, 8, 8])).toArray⟩ : ByteArray) = Lib.len8tab := by kernel_rfl
set_option maxRecDepth 100000 in
set_option maxHeartbeats 1000000 in
theorem len64_any (x : Int) (w : World) (h0 : 0 ≤ x) (h1 : x < 64) :
    Calls Tryd.prog 112 #[.int .u64 x] w fun e w' => e = .returned (.int .i64 (Lib.bitLen x.toNat)) ∧ w' = w := by
  go_enter Tryd.func112, Tryd.ntmps112
  rw [fold_tab]
  go_wp2
  go_ret
  rename_i hsz
  have hs : x.toNat < Lib.len8tab.size := by omega
  have key : ((Lib.len8tab[x.toNat]'hs).toNat : Int) = (Lib.bitLen x.toNat : Int) := by
    have e := Lib.len8_eq ⟨x.toNat, by omega⟩
    unfold Lib.len8 at e
    simp only [Int.toNat_natCast] at e
    rw [ByteArray.getElem?_lt' _ _ hs] at e
    simpa using e
  have l := Lib.bitLen_le8 ⟨x.toNat, by omega⟩
  refine ⟨?_, rfl⟩
  dsimp only at l
  have e1 : wrap64 (Lib.bitLen x.toNat : Int) = (Lib.bitLen x.toNat : Int) := wrap64_small (by omega) (by omega)
  rw [key, e1, e1]; rfl
set_option maxRecDepth 100000 in
theorem len_any (x : Int) (w : World) (h0 : 0 ≤ x) (h1 : x < 64) :
    Calls Tryd.prog 108 #[.int .u64 x] w fun e w' => e = .returned (.int .i64 (Lib.bitLen x.toNat)) ∧ w' = w := by
  go_enter Tryd.func108, Tryd.ntmps108
  go_wp2_with fail
  refine (len64_any x w h0 h1).mono ?_
  rintro e w' ⟨rfl, rfl⟩
  go_wp2_with fail
  go_ret
  exact ⟨rfl, rfl⟩
set_option maxRecDepth 100000 in
theorem splitPlace_any (n : Nat) (w : World) (h2 : 2 ≤ n) (h : n ≤ 64) :
    Calls Tryd.prog 95 #[.int .i64 n] w fun e w' => e = .returned (.int .i64 (half n)) ∧ w' = w := by
  have HB := hide (bl_all ⟨n - 1, by omega⟩ (by dsimp only; omega))
  have HL := hide (len_any ((n : Int) - 1) w (by omega) (by omega))
  rw [show ((n : Int) - 1).toNat = n - 1 by omega] at HL
  have HH : Hid (half n = 2 ^ (Lib.bitLen (n - 1) - 1)) := rfl
  dsimp only at HB
  generalize Lib.bitLen (n - 1) = c at *
  go_enter Tryd.func95, Tryd.ntmps95
  go_wp2_with fail
  refine (unhide HL).mono ?_
  rintro e w' ⟨rfl, rfl⟩
  rcases unhide HB with rfl | rfl | rfl | rfl | rfl | rfl
  all_goals
    go_wp2_with fail
    go_ret
    exact ⟨by rw [unhide HH]; rfl, rfl⟩
set_option maxRecDepth 100000 in
theorem l06Half_any (n : Nat) (w : World) (h2 : 2 ≤ n) (h : n ≤ 64) :
    Calls Tryd.prog 62 #[.int .i64 n] w fun e w' => e = .returned (.int .i64 (half n)) ∧ w' = w := by
  go_enter Tryd.func62, Tryd.ntmps62
  go_wp2_with fail
  go_loop [3] (fun kv => ∃ j m : Nat, kv = .int .i64 m ∧ m = 2 ^ j ∧ j < 7 ∧ m < n ∧ 1 ≤ m) (fun kv => n - (intOf kv).toNat)
  case atStart => exact ⟨0, 1, rfl, rfl, by omega, by omega, by omega⟩
  case round =>
    obtain ⟨j, m, rfl, hm, hj, hmn, h1⟩ := hrel
    have HM := hide hm
    clear hm
    by_cases hlt : 2 * m < n
    · have hj6 : Hid (j + 1 < 7) := hide (by
        rcases (show j + 1 < 7 ∨ j = 6 by omega) with h' | h'
        · exact h'
        · exfalso; have := unhide HM; subst h'; omega)
      have HM2 : Hid (m * 2 = 2 ^ (j + 1)) := hide (by rw [Nat.pow_succ, ← unhide HM])
      have hlt2 : 2 * (m : Int) < (n : Int) := by omega
      go_wp2_with fail
      refine ⟨⟨j + 1, m * 2, by go_num, unhide HM2, unhide hj6, by omega, by omega⟩, ?_⟩
      simp [intOf]; omega
    · have HU : Hid (m = half n) := hide (by
        have e := unhide HM
        rw [e]
        exact half_uniq ⟨n, by omega⟩ ⟨j, hj⟩ h2 (by dsimp only; omega) (by dsimp only; omega))
      have hlt2 : ¬ 2 * (m : Int) < (n : Int) := by omega
      go_wp2_with fail
      go_ret
      exact ⟨by rw [unhide HU]; rfl, rfl⟩
def allH (l : List ByteArray) : Bool := l.all fun s => decide (s.size = 32)
theorem allH_yes {l : List ByteArray} (h : ∀ j, j < l.length → (l.getD j ByteArray.empty).size = 32) : allH l = true := by
  unfold allH; rw [List.all_eq_true]
  intro s hs
  obtain ⟨j, hj⟩ := List.getElem?_of_mem hs
  have := h j (List.getElem?_eq_some_iff.1 hj).1
  rw [List.getD_eq_getElem?_getD, hj] at this
  simpa using this
theorem allH_at {l : List ByteArray} (h : allH l = true) (j : Nat) (hj : j < l.length) : (l.getD j ByteArray.empty).size = 32 := by
  unfold allH at h; rw [List.all_eq_true] at h
  have := h _ (List.getElem_mem hj)
  rw [List.getD_eq_getElem?_getD, List.getElem?_eq_getElem hj]
  simpa using this
theorem allH_no {l : List ByteArray} {j : Nat} (hj : j < l.length) (h : (l.getD j ByteArray.empty).size ≠ 32) : allH l = false := by
  rcases Bool.eq_false_or_eq_true (allH l) with e | e
  · exact absurd (allH_at e j hj) h
  · exact e
/-- The code of a list that was handed in as leaves or as a proof. -/
def codeL (l : List ByteArray) : Int := if 4096 < l.length then 2 else if l.length ≤ 64 ∧ allH l = true then 0 else 1
theorem codeL_ok {l : List ByteArray} (h : codeL l = 0) : l.length ≤ 64 ∧ ∀ j, j < l.length → (l.getD j ByteArray.empty).size = 32 := by
  unfold codeL at h
  split at h
  · cases h
  · split at h
    · rename_i h1; exact ⟨h1.1, allH_at h1.2⟩
    · cases h
theorem codeL_cases (l : List ByteArray) : codeL l = 0 ∨ codeL l = 1 ∨ codeL l = 2 := by
  unfold codeL; split
  · exact .inr (.inr rfl)
  · split
    · exact .inl rfl
    · exact .inr (.inl rfl)
/-- A slice of texts that is there, with room for its length. -/
structure SA (w : World) (b off cap : Nat) (l : List ByteArray) : Prop where
  le : l.length ≤ cap
  mx : cap ≤ maxLen
  lt : b < w.heap.size
  cell : ∀ i, i < l.length → w.cell? ⟨b, off + i, none⟩ = some (.string (l.getD i ByteArray.empty))
theorem SA.below {w w' : World} {b off cap : Nat} {l : List ByteArray} (h : SA w b off cap l) (hb : Below w.heap.size w w') : SA w' b off cap l :=
  ⟨h.le, h.mx, Nat.lt_of_lt_of_le h.lt hb.size, fun i hi => (hb.cell (p := ⟨b, off + i, none⟩) h.lt).trans (h.cell i hi)⟩
theorem SA.drewN {w : World} {b off cap : Nat} {l : List ByteArray} (h : SA w b off cap l) (n : Nat) : SA (w.drewN n) b off cap l := h.below (below_drewN (Below.refl _ _) n)
theorem SA.take {w : World} {b off cap : Nat} {l : List ByteArray} (h : SA w b off cap l) (k : Nat) (hk : k ≤ l.length) : SA w b off cap (l.take k) := by
  have e : (l.take k).length = k := by rw [List.length_take]; omega
  refine ⟨by have := h.le; omega, h.mx, h.lt, fun i hi => ?_⟩
  rw [e] at hi
  rw [h.cell i (by omega)]
  simp [List.getD_eq_getElem?_getD, hi]
theorem SA.drop {w : World} {b off cap : Nat} {l : List ByteArray} (h : SA w b off cap l) (k : Nat) (hk : k ≤ l.length) : SA w b (off + k) (cap - k) (l.drop k) := by
  have e : (l.drop k).length = l.length - k := List.length_drop ..
  refine ⟨by have := h.le; omega, by have := h.mx; omega, h.lt, fun i hi => ?_⟩
  rw [e] at hi
  rw [show off + k + i = off + (k + i) by omega, h.cell (k + i) (by omega)]
  simp [List.getD_eq_getElem?_getD, List.getElem?_drop]
theorem SA.strs {w : World} {b off cap : Nat} {l : List ByteArray} (h : SA w b off cap l) : Strs w (.slice (some ⟨b, off, none⟩) l.length cap) l :=
  ⟨_, _, rfl, Nat.le_trans h.le h.mx, .inr ⟨b, off, rfl, h.lt, h.cell⟩⟩
theorem SA.own {B : Nat} {w : World} {g cap : Nat} {l : List ByteArray} (h : OwnS B w (.slice (some ⟨g, 0, none⟩) l.length cap) l) : SA w g 0 cap l := by
  rcases own_shape h with ⟨hv, _⟩ | ⟨g', cap', hv, hb, hlt, hn, hm⟩
  · cases hv
  · simp only [Value.slice.injEq, Option.some.injEq, Addr.mk.injEq] at hv
    obtain ⟨⟨rfl, _⟩, _, rfl⟩ := hv
    exact ⟨hn, hm, hlt, fun i hi => by rw [Nat.zero_add]; exact h.cell i hi⟩

set_option maxRecDepth 100000 in
set_option maxHeartbeats 1000000 in
theorem indexFunc_any (l : List ByteArray) (b off cap : Nat) (w : World) (h : SA w b off cap l) (hz : ∀ i, (l.getD i ByteArray.empty).size ≤ 1048576) :
    Calls Tryd.prog 68 #[.slice (some ⟨b, off, none⟩) l.length cap, .func (.func 43) #[] #[]] w fun e w' => ∃ r : Int, e = .returned (.int .i64 r) ∧ (0 ≤ r ↔ allH l = false) ∧ w' = w := by
  have hle : l.length ≤ 9223372036854775807 := by have := h.le; have := h.mx; unfold maxLen at this; omega
  have HS := hide h
  have HZ := hide hz
  clear h hz
  go_enter Tryd.func68, Tryd.ntmps68
  go_wp2_with fail
  go_loop [8] (fun i => ∃ k : Nat, k ≤ l.length ∧ i = .int .i64 k ∧ ∀ j, j < k → (l.getD j ByteArray.empty).size = 32) (fun i => l.length - (intOf i).toNat)
  case atStart => exact ⟨0, Nat.zero_le _, rfl, fun j hj => by omega⟩
  case round =>
    obtain ⟨k, hk, rfl, hgo⟩ := hrel
    have HGO := hide hgo
    clear hgo
    by_cases hlt : k < l.length
    · have c0 := (unhide HS).cell k hlt
      have hk0 : (0 : Int) ≤ (k : Int) := by omega
      have hk1 : (k : Int) < (l.length : Int) := by omega
      have HN := hide (notHash_any (l.getD k ByteArray.empty) w (by have := unhide HZ k; unfold maxLen; omega))
      have HNO := hide (allH_no (l := l) (j := k) hlt)
      have HT := hide (rfl : l.getD k ByteArray.empty = l.getD k ByteArray.empty)
      generalize htk : l.getD k ByteArray.empty = t at c0 HN HNO
      have HTK := hide htk
      clear htk HT
      go_wp2_with fail
      refine (unhide HN).mono ?_
      rintro e w' ⟨rfl, rfl⟩
      by_cases ht : t.size = 32
      · have hb : (!decide (t.size = 32)) = false := by simp [ht]
        rw [hb]
        go_wp2_with fail
        refine ⟨⟨k + 1, by omega, by go_num, fun j hj => ?_⟩, ?_⟩
        · by_cases e : j = k
          · subst e; rw [unhide HTK]; exact ht
          · exact unhide HGO j (by omega)
        · simp [intOf]; omega
      · have hb : (!decide (t.size = 32)) = true := by simp [ht]
        have HA := hide (unhide HNO ht)
        rw [hb]
        clear ht hb
        go_wp2_with fail
        go_ret
        exact ⟨_, rfl, ⟨fun _ => unhide HA, fun _ => hk0⟩, rfl⟩
    · obtain rfl : k = l.length := by omega
      have HA := hide (allH_yes (unhide HGO))
      go_wp2_with fail
      go_ret
      exact ⟨_, rfl, ⟨fun h => by omega, fun h => by rw [unhide HA] at h; cases h⟩, rfl⟩
set_option maxRecDepth 100000 in
theorem containsFunc_any (l : List ByteArray) (b off cap : Nat) (w : World) (h : SA w b off cap l) (hz : ∀ i, (l.getD i ByteArray.empty).size ≤ 1048576) :
    Calls Tryd.prog 42 #[.slice (some ⟨b, off, none⟩) l.length cap, .func (.func 43) #[] #[]] w fun e w' => e = .returned (.bool (!allH l)) ∧ w' = w := by
  have HI := hide (indexFunc_any l b off cap w h hz)
  clear h hz
  go_enter Tryd.func42, Tryd.ntmps42
  go_wp2_with fail
  refine (unhide HI).mono ?_
  rintro e w' ⟨r, rfl, hr, rfl⟩
  by_cases h0 : 0 ≤ r
  · have HA := hide (hr.1 h0)
    clear hr
    go_wp2_with fail
    go_ret
    exact ⟨ret_bool (by rw [unhide HA]; rfl), rfl⟩
  · have HA : Hid (allH l = true) := hide (by
      rcases Bool.eq_false_or_eq_true (allH l) with e | e
      · exact e
      · exact absurd (hr.2 e) h0)
    clear hr
    go_wp2_with fail
    go_ret
    exact ⟨ret_bool (by rw [unhide HA]; simp; omega), rfl⟩
set_option maxRecDepth 100000 in
set_option maxHeartbeats 1000000 in
theorem l06Hashes_any (l : List ByteArray) (b off cap : Nat) (w : World) (h : SA w b off cap l) (hz : ∀ i, (l.getD i ByteArray.empty).size ≤ 1048576) :
    Calls Tryd.prog 34 #[.slice (some ⟨b, off, none⟩) l.length cap] w fun e w' => e = .returned (.bool (decide (l.length ≤ 64) && allH l)) ∧ w' = w := by
  have hle : l.length ≤ 9223372036854775807 := by have := h.le; have := h.mx; unfold maxLen at this; omega
  have HS := hide h
  have HZ := hide hz
  clear h hz
  by_cases h1 : 64 < l.length
  · have H : Hid ((decide (l.length ≤ 64) && allH l) = false) := hide (by simp; omega)
    go_enter Tryd.func34, Tryd.ntmps34
    go_wp2_with fail
    go_ret
    exact ⟨ret_bool (unhide H).symm, rfl⟩
  have H : Hid ((decide (l.length ≤ 64) && allH l) = allH l) := hide (by simp; omega)
  go_enter Tryd.func34, Tryd.ntmps34
  go_wp2_with fail
  go_loop [3] (fun i => ∃ k : Nat, k ≤ l.length ∧ i = .int .i64 k ∧ ∀ j, j < k → (l.getD j ByteArray.empty).size = 32) (fun i => l.length - (intOf i).toNat)
  case atStart => exact ⟨0, Nat.zero_le _, rfl, fun j hj => by omega⟩
  case round =>
    obtain ⟨k, hk, rfl, hgo⟩ := hrel
    have HGO := hide hgo
    clear hgo
    by_cases hlt : k < l.length
    · have c0 := (unhide HS).cell k hlt
      have hk0 : (0 : Int) ≤ (k : Int) := by omega
      have hk1 : (k : Int) < (l.length : Int) := by omega
      have HNO := hide (allH_no (l := l) (j := k) hlt)
      generalize htk : l.getD k ByteArray.empty = t at c0 HNO
      have htz : t.size ≤ 1048576 := by rw [← htk]; exact unhide HZ k
      have HTK := hide htk
      clear htk
      by_cases ht : t.size = 32
      · go_wp2_with fail
        refine ⟨⟨k + 1, by omega, by go_num, fun j hj => ?_⟩, ?_⟩
        · by_cases e : j = k
          · subst e; rw [unhide HTK]; exact ht
          · exact unhide HGO j (by omega)
        · simp [intOf]; omega
      · have HA := hide (unhide HNO ht)
        have ht2 : (t.size : Int) ≠ 32 := by omega
        go_wp2_with fail
        go_ret
        exact ⟨ret_bool (by rw [unhide H, unhide HA]), rfl⟩
    · obtain rfl : k = l.length := by omega
      have HA := hide (allH_yes (unhide HGO))
      go_wp2_with fail
      go_ret
      exact ⟨ret_bool (by rw [unhide H, unhide HA]), rfl⟩
end Go.Proofs.YtinpoaghedhknaaDoor
