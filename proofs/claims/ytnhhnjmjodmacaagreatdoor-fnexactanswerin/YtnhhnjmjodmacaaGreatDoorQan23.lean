/- Whether a command is right: impl.CommandOK and spec.CommandOK, walked. The writer's numbers: each in so many bytes, the higher ones first. The writer: a string's bytes, numbers in a list of the call's own. -/
import Derived.Test.YtnhhnjmjodmacaaGreatDoorQan01
import Derived.Test.YtnhhnjmjodmacaaGreatDoorQan00
import Derived.Test.YtnhhnjmjodmacaaGreatDoorQan08
import Derived.Deep.RegionLaw
import Derived.WalkSpells
namespace Go.Proofs.YtnhhnjmjodmacaaGreatDoor
open Go.ChangeShapes Go.WideShapes Go.ChangeAt Go.RowKit
set_option linter.unusedVariables false
theorem keyOK_any (s : ByteArray) (w : World) (hs : s.size ≤ maxLen) :
    Calls Tryz.prog 73 #[.string s] w fun e w' => e = .returned (.bool (inB s.size 1 24)) ∧ w' = w := by
  unfold maxLen at hs
  go_enter Tryz.func73, Tryz.ntmps73
  go_wp2_with fail
  refine (within_any _ _ _ _).mono ?_
  rintro e w' ⟨rfl, rfl⟩
  go_wp2
  go_ret
  exact ⟨rfl, rfl⟩
theorem l02Key_any (s : ByteArray) (w : World) (hs : s.size ≤ maxLen) :
    Calls Tryz.prog 59 #[.string s] w fun e w' => e = .returned (.bool (inB s.size 1 24)) ∧ w' = w := by
  unfold maxLen at hs
  by_cases h1 : 1 ≤ (s.size : Int)
  · go_enter Tryz.func59, Tryz.ntmps59
    go_wp2
    go_ret
    exact ⟨ret_bool (by simp [inB, h1]), rfl⟩
  · have H := hide (show inB s.size 1 24 = false by simp [inB]; omega)
    go_enter Tryz.func59, Tryz.ntmps59
    go_wp2
    go_ret
    exact ⟨ret_bool (unhide H).symm, rfl⟩

/-- A command is right. -/
def cmdOK (k s q : Int) (key val : ByteArray) : Bool :=
  if inB s 0 65535 && inB q 0 65535 && decide (val.size ≤ 60) then
    (if k = 1 ∨ k = 2 then inB key.size 1 24 else if k = 3 then inB key.size 1 24 && emptyB val else if k = 4 ∨ k = 5 then emptyB key && emptyB val && decide (q = 0) else false)
  else false

set_option maxRecDepth 100000 in
set_option maxHeartbeats 1000000 in
theorem implCommandOK_any (k s q : Int) (key val : ByteArray) (w : World) (hk : key.size ≤ maxLen) (hv : val.size ≤ maxLen) :
    Calls Tryz.prog 38 #[.agg #[.int .i64 k, .int .i64 s, .int .i64 q, .string key, .string val]] w fun e w' => e = .returned (.bool (cmdOK k s q key val)) ∧ Below w.heap.size w w' := by
  unfold maxLen at hk hv
  have HB : ∀ o, Below w.heap.size w (w.alloc o) := fun o => (Below.refl _ _).alloc (Nat.le_refl _) o
  have H5 := hide HB
  clear HB
  rcases Bool.eq_false_or_eq_true (inB s 0 65535) with h1 | h1
  case inr =>
    have H := hide (show cmdOK k s q key val = false by simp [cmdOK, h1])
    go_enter Tryz.func38, Tryz.ntmps38
    go_wp2_with (first | (go_at_call 72; refine (within_any _ _ _ _).mono ?_; rintro e w' ⟨rfl, rfl⟩) | (go_at_call 73; refine (keyOK_any _ _ (by unfold maxLen; omega)).mono ?_; rintro e w' ⟨rfl, rfl⟩))
    go_ret
    exact ⟨ret_bool (unhide H).symm, unhide H5 _⟩
  rcases Bool.eq_false_or_eq_true (inB q 0 65535) with h2 | h2
  case inr =>
    have H := hide (show cmdOK k s q key val = false by simp [cmdOK, h2])
    go_enter Tryz.func38, Tryz.ntmps38
    go_wp2_with (first | (go_at_call 72; refine (within_any _ _ _ _).mono ?_; rintro e w' ⟨rfl, rfl⟩) | (go_at_call 73; refine (keyOK_any _ _ (by unfold maxLen; omega)).mono ?_; rintro e w' ⟨rfl, rfl⟩))
    go_ret
    exact ⟨ret_bool (unhide H).symm, unhide H5 _⟩
  by_cases h3 : (60 : Int) < (val.size : Int)
  · have H := hide (show cmdOK k s q key val = false by simp [cmdOK]; omega)
    go_enter Tryz.func38, Tryz.ntmps38
    go_wp2_with (first | (go_at_call 72; refine (within_any _ _ _ _).mono ?_; rintro e w' ⟨rfl, rfl⟩) | (go_at_call 73; refine (keyOK_any _ _ (by unfold maxLen; omega)).mono ?_; rintro e w' ⟨rfl, rfl⟩))
    go_ret
    exact ⟨ret_bool (unhide H).symm, unhide H5 _⟩
  have h3' : val.size ≤ 60 := by omega
  have E := hide (show cmdOK k s q key val = (if k = 1 ∨ k = 2 then inB key.size 1 24 else if k = 3 then inB key.size 1 24 && emptyB val else if k = 4 ∨ k = 5 then emptyB key && emptyB val && decide (q = 0) else false) by simp [cmdOK, h1, h2, h3'])
  clear h3'
  by_cases k1 : k = 1
  · have H := hide ((unhide E).trans (by rw [if_pos (Or.inl k1)]))
    subst k1
    go_enter Tryz.func38, Tryz.ntmps38
    go_wp2_with (first | (go_at_call 72; refine (within_any _ _ _ _).mono ?_; rintro e w' ⟨rfl, rfl⟩) | (go_at_call 73; refine (keyOK_any _ _ (by unfold maxLen; omega)).mono ?_; rintro e w' ⟨rfl, rfl⟩))
    go_ret
    exact ⟨ret_bool (unhide H).symm, unhide H5 _⟩
  by_cases k2 : k = 2
  · have H := hide ((unhide E).trans (by rw [if_pos (Or.inr k2)]))
    subst k2
    go_enter Tryz.func38, Tryz.ntmps38
    go_wp2_with (first | (go_at_call 72; refine (within_any _ _ _ _).mono ?_; rintro e w' ⟨rfl, rfl⟩) | (go_at_call 73; refine (keyOK_any _ _ (by unfold maxLen; omega)).mono ?_; rintro e w' ⟨rfl, rfl⟩))
    go_ret
    exact ⟨ret_bool (unhide H).symm, unhide H5 _⟩
  by_cases k3 : k = 3
  · have H := hide ((unhide E).trans (by rw [if_neg (by omega), if_pos k3]))
    subst k3
    rcases Bool.eq_false_or_eq_true (inB key.size 1 24) with h4 | h4
    · go_enter Tryz.func38, Tryz.ntmps38
      go_wp2_with (first | (go_at_call 72; refine (within_any _ _ _ _).mono ?_; rintro e w' ⟨rfl, rfl⟩) | (go_at_call 73; refine (keyOK_any _ _ (by unfold maxLen; omega)).mono ?_; rintro e w' ⟨rfl, rfl⟩))
      all_goals
        go_ret
        exact ⟨ret_bool (by rw [unhide H, h4]; simp [emptyB]), unhide H5 _⟩
    · go_enter Tryz.func38, Tryz.ntmps38
      go_wp2_with (first | (go_at_call 72; refine (within_any _ _ _ _).mono ?_; rintro e w' ⟨rfl, rfl⟩) | (go_at_call 73; refine (keyOK_any _ _ (by unfold maxLen; omega)).mono ?_; rintro e w' ⟨rfl, rfl⟩))
      go_ret
      exact ⟨ret_bool (by rw [unhide H, h4]; simp), unhide H5 _⟩
  by_cases k4 : k = 4 ∨ k = 5
  · have H := hide ((unhide E).trans (by rw [if_neg (by omega), if_neg k3, if_pos k4]))
    clear E k1 k2 k3
    have H4 := hide k4
    clear k4
    rcases Bool.eq_false_or_eq_true (emptyB key) with h4 | h4 <;> rcases Bool.eq_false_or_eq_true (emptyB val) with h5 | h5
    all_goals
      unfold emptyB at h4 h5
      rcases unhide H4 with k4 | k4
      all_goals
        subst k4
        go_enter Tryz.func38, Tryz.ntmps38
        go_wp2_with (first | (go_at_call 72; refine (within_any _ _ _ _).mono ?_; rintro e w' ⟨rfl, rfl⟩) | (go_at_call 73; refine (keyOK_any _ _ (by unfold maxLen; omega)).mono ?_; rintro e w' ⟨rfl, rfl⟩))
        all_goals
          go_ret
          refine ⟨ret_bool ?_, unhide H5 _⟩
          rw [unhide H]
          simp [emptyB, h4, h5]
          try rfl
  · have H := hide ((unhide E).trans (by rw [if_neg (by omega), if_neg k3, if_neg k4]))
    have k5 : ¬ k = 4 := by omega
    have k6 : ¬ k = 5 := by omega
    clear k4 E
    go_enter Tryz.func38, Tryz.ntmps38
    go_wp2_with (first | (go_at_call 72; refine (within_any _ _ _ _).mono ?_; rintro e w' ⟨rfl, rfl⟩) | (go_at_call 73; refine (keyOK_any _ _ (by unfold maxLen; omega)).mono ?_; rintro e w' ⟨rfl, rfl⟩))
    go_ret
    exact ⟨ret_bool (unhide H).symm, unhide H5 _⟩
set_option maxRecDepth 100000 in
set_option maxHeartbeats 1000000 in
theorem specCommandOK_any (k s q : Int) (key val : ByteArray) (w : World) (hk : key.size ≤ maxLen) (hv : val.size ≤ maxLen) :
    Calls Tryz.prog 31 #[.agg #[.int .i64 k, .int .i64 s, .int .i64 q, .string key, .string val]] w fun e w' => e = .returned (.bool (cmdOK k s q key val)) ∧ Below w.heap.size w w' := by
  unfold maxLen at hk hv
  have HB : ∀ o, Below w.heap.size w (w.alloc o) := fun o => (Below.refl _ _).alloc (Nat.le_refl _) o
  have H5 := hide HB
  clear HB
  rcases Bool.eq_false_or_eq_true (inB s 0 65535) with h1 | h1
  case inr =>
    have H := hide (show cmdOK k s q key val = false by simp [cmdOK, h1])
    go_enter Tryz.func31, Tryz.ntmps31
    go_wp2_with (first | (go_at_call 58; refine (l01In_any _ _ _ _).mono ?_; rintro e w' ⟨rfl, rfl⟩) | (go_at_call 59; refine (l02Key_any _ _ (by unfold maxLen; omega)).mono ?_; rintro e w' ⟨rfl, rfl⟩))
    go_ret
    exact ⟨ret_bool (unhide H).symm, unhide H5 _⟩
  rcases Bool.eq_false_or_eq_true (inB q 0 65535) with h2 | h2
  case inr =>
    have H := hide (show cmdOK k s q key val = false by simp [cmdOK, h2])
    go_enter Tryz.func31, Tryz.ntmps31
    go_wp2_with (first | (go_at_call 58; refine (l01In_any _ _ _ _).mono ?_; rintro e w' ⟨rfl, rfl⟩) | (go_at_call 59; refine (l02Key_any _ _ (by unfold maxLen; omega)).mono ?_; rintro e w' ⟨rfl, rfl⟩))
    go_ret
    exact ⟨ret_bool (unhide H).symm, unhide H5 _⟩
  by_cases h3 : (60 : Int) < (val.size : Int)
  · have H := hide (show cmdOK k s q key val = false by simp [cmdOK]; omega)
    go_enter Tryz.func31, Tryz.ntmps31
    go_wp2_with (first | (go_at_call 58; refine (l01In_any _ _ _ _).mono ?_; rintro e w' ⟨rfl, rfl⟩) | (go_at_call 59; refine (l02Key_any _ _ (by unfold maxLen; omega)).mono ?_; rintro e w' ⟨rfl, rfl⟩))
    go_ret
    exact ⟨ret_bool (unhide H).symm, unhide H5 _⟩
  have h3' : val.size ≤ 60 := by omega
  have E := hide (show cmdOK k s q key val = (if k = 1 ∨ k = 2 then inB key.size 1 24 else if k = 3 then inB key.size 1 24 && emptyB val else if k = 4 ∨ k = 5 then emptyB key && emptyB val && decide (q = 0) else false) by simp [cmdOK, h1, h2, h3'])
  clear h3'
  by_cases k1 : k = 1
  · have H := hide ((unhide E).trans (by rw [if_pos (Or.inl k1)]))
    subst k1
    go_enter Tryz.func31, Tryz.ntmps31
    go_wp2_with (first | (go_at_call 58; refine (l01In_any _ _ _ _).mono ?_; rintro e w' ⟨rfl, rfl⟩) | (go_at_call 59; refine (l02Key_any _ _ (by unfold maxLen; omega)).mono ?_; rintro e w' ⟨rfl, rfl⟩))
    go_ret
    exact ⟨ret_bool (unhide H).symm, unhide H5 _⟩
  by_cases k2 : k = 2
  · have H := hide ((unhide E).trans (by rw [if_pos (Or.inr k2)]))
    subst k2
    go_enter Tryz.func31, Tryz.ntmps31
    go_wp2_with (first | (go_at_call 58; refine (l01In_any _ _ _ _).mono ?_; rintro e w' ⟨rfl, rfl⟩) | (go_at_call 59; refine (l02Key_any _ _ (by unfold maxLen; omega)).mono ?_; rintro e w' ⟨rfl, rfl⟩))
    go_ret
    exact ⟨ret_bool (unhide H).symm, unhide H5 _⟩
  by_cases k3 : k = 3
  · have H := hide ((unhide E).trans (by rw [if_neg (by omega), if_pos k3]))
    subst k3
    rcases Bool.eq_false_or_eq_true (inB key.size 1 24) with h4 | h4
    · go_enter Tryz.func31, Tryz.ntmps31
      go_wp2_with (first | (go_at_call 58; refine (l01In_any _ _ _ _).mono ?_; rintro e w' ⟨rfl, rfl⟩) | (go_at_call 59; refine (l02Key_any _ _ (by unfold maxLen; omega)).mono ?_; rintro e w' ⟨rfl, rfl⟩))
      all_goals
        go_ret
        exact ⟨ret_bool (by rw [unhide H, h4]; simp [emptyB]), unhide H5 _⟩
    · go_enter Tryz.func31, Tryz.ntmps31
      go_wp2_with (first | (go_at_call 58; refine (l01In_any _ _ _ _).mono ?_; rintro e w' ⟨rfl, rfl⟩) | (go_at_call 59; refine (l02Key_any _ _ (by unfold maxLen; omega)).mono ?_; rintro e w' ⟨rfl, rfl⟩))
      go_ret
      exact ⟨ret_bool (by rw [unhide H, h4]; simp), unhide H5 _⟩
  by_cases k4 : k = 4 ∨ k = 5
  · have H := hide ((unhide E).trans (by rw [if_neg (by omega), if_neg k3, if_pos k4]))
    clear E k1 k2 k3
    have H4 := hide k4
    clear k4
    rcases Bool.eq_false_or_eq_true (emptyB key) with h4 | h4 <;> rcases Bool.eq_false_or_eq_true (emptyB val) with h5 | h5
    all_goals
      unfold emptyB at h4 h5
      rcases unhide H4 with k4 | k4
      all_goals
        subst k4
        go_enter Tryz.func31, Tryz.ntmps31
        go_wp2_with (first | (go_at_call 58; refine (l01In_any _ _ _ _).mono ?_; rintro e w' ⟨rfl, rfl⟩) | (go_at_call 59; refine (l02Key_any _ _ (by unfold maxLen; omega)).mono ?_; rintro e w' ⟨rfl, rfl⟩))
        all_goals
          go_ret
          refine ⟨ret_bool ?_, unhide H5 _⟩
          rw [unhide H]
          simp [emptyB, h4, h5]
          try rfl
  · have H := hide ((unhide E).trans (by rw [if_neg (by omega), if_neg k3, if_neg k4]))
    have k5 : ¬ k = 4 := by omega
    have k6 : ¬ k = 5 := by omega
    clear k4 E
    go_enter Tryz.func31, Tryz.ntmps31
    go_wp2_with (first | (go_at_call 58; refine (l01In_any _ _ _ _).mono ?_; rintro e w' ⟨rfl, rfl⟩) | (go_at_call 59; refine (l02Key_any _ _ (by unfold maxLen; omega)).mono ?_; rintro e w' ⟨rfl, rfl⟩))
    go_ret
    exact ⟨ret_bool (unhide H).symm, unhide H5 _⟩
end Go.Proofs.YtnhhnjmjodmacaaGreatDoor
namespace Go.Proofs.YtnhhnjmjodmacaaGreatDoor
open Go.ChangeShapes Go.WideShapes Go.ChangeAt Go.RowKit
set_option linter.unusedVariables false
/-- n in m bytes, the higher ones first. -/
def encN (n : Int) : Nat → List Int
  | 0 => []
  | m + 1 => (n / 256 ^ m % 256) :: encN n m
def encAll (m : Nat) : List Int → List Int
  | [] => []
  | n :: r => encN n m ++ encAll m r
theorem encN_len (n : Int) (m : Nat) : (encN n m).length = m := by
  induction m with
  | zero => rfl
  | succ m ih => simp [encN, ih]
theorem encAll_len (m : Nat) (l : List Int) : (encAll m l).length = m * l.length := by
  induction l with
  | nil => rfl
  | cons n r ih => simp [encAll, encN_len, ih, Nat.mul_add]; omega

theorem encAll_drop (m : Nat) (l : List Int) (k : Nat) (h : k < l.length) : encAll m (l.drop k) = encN (l.getD k 0) m ++ encAll m (l.drop (k + 1)) := by
  rw [List.drop_eq_getElem_cons h, List.getD_eq_getElem?_getD, List.getElem?_eq_getElem h]; rfl
theorem gather_len {m k : Nat} {xs ys ns : List Int} (h : ys ++ encAll m (ns.drop k) = xs ++ encAll m ns) (hm : m ≤ 4) (hx : xs.length ≤ 70000) (hn : ns.length ≤ 4096) : ys.length ≤ 86400 := by
  have e := congrArg List.length h
  rw [List.length_append, List.length_append, encAll_len m ns] at e
  have : m * ns.length ≤ 4 * 4096 := Nat.mul_le_mul hm hn
  omega
theorem gather_len2 {m j : Nat} {n : Int} {zs ys : List Int} (h : zs ++ encN n j = ys ++ encN n m) (hm : m ≤ 4) (hy : ys.length ≤ 86400) : zs.length ≤ 86404 := by
  have e := congrArg List.length h
  rw [List.length_append, List.length_append, encN_len, encN_len] at e
  omega
theorem wrapI (n : Int) (h0 : 0 ≤ n) (h1 : n < 9223372036854775808) : IntKind.i64.wrap n = n := by
  simp only [IntKind.wrap, IntKind.bits, IntKind.signed]
  simp
  omega
theorem wrapB (n : Int) (q : Nat) : IntKind.u8.wrap (n / 2 ^ (8 * (q : Int)).toNat) = n / 256 ^ q % 256 := by
  have e : (2 : Int) ^ (8 * (q : Int)).toNat = 256 ^ q := by
    rw [show (8 * (q : Int)).toNat = 8 * q by omega, Int.pow_mul]; rfl
  rw [e]; simp [IntKind.wrap, IntKind.bits, IntKind.signed]
set_option maxRecDepth 100000 in
set_option maxHeartbeats 1000000 in
theorem numbers_any (b m : Nat) (v : Value) (xs ns : List Int) (L off cap : Nat) (w : World) (h : Wr w b v xs) (hm : m ≤ 4) (hL : L < w.heap.size) (hLb : L ≠ b) (hLv : v.ownBlock ≠ some L)
    (hc : ∀ i, i < ns.length → w.cell? ⟨L, off + i, none⟩ = some (.int .i64 (ns.getD i 0))) (hr : ∀ i, 0 ≤ ns.getD i 0 ∧ ns.getD i 0 < 4294967296) (hlen : ns.length ≤ 4096) (hxl : xs.length ≤ 70000) :
    Calls Tryz.prog 148 #[.pointer (some ⟨b, 0, none⟩), .int .i64 m, .slice (some ⟨L, off, none⟩) ns.length cap] w fun e w' => e = .returned (.tuple #[]) ∧ ∃ v', Wr w' b v' (xs ++ encAll m ns) ∧ Touch (WT b v) w w' ∧ Lies v v' w.heap.size := by
  obtain ⟨i0, hi, hz0, hz1, hz2⟩ := info_parts info5
  have HW := hide h
  have HC := hide hc
  have HR := hide hr
  clear h hc hr
  go_enter Tryz.func148, Tryz.ntmps148
  go_wp2_with fail
  go_loopw [7, 8, 11] (fun _ _ i wr => ∃ (k : Nat) (u : Value) (ys : List Int), k ≤ ns.length ∧ i = .int .i64 k ∧ Wr wr b u ys ∧ ys ++ encAll m (ns.drop k) = xs ++ encAll m ns ∧ Touch (WT b v) w wr ∧ Lies v u w.heap.size) (fun _ _ i _ => ns.length - (intOf i).toNat)
  case atStart => exact ⟨0, v, xs, Nat.zero_le _, rfl, unhide HW, rfl, Touch.refl _ _, Lies.refl _ _⟩
  case round =>
    obtain ⟨k, u, ys, hk, rfl, hW, hE, hT, hLi⟩ := hrel
    by_cases hlt : k < ns.length
    · have hs1 : wr.cell? ⟨L, off + k, none⟩ = some (.int .i64 (ns.getD k 0)) := by
        rw [hT.cell (p := ⟨L, off + k, none⟩) hL (fun hx => by rcases hx with h1 | h1; exact hLb h1; exact hLv h1)]
        exact unhide HC k hlt
      have hr1 := unhide HR k
      have hk0 : (0 : Int) ≤ (k : Int) := by omega
      have hk1 : (k : Int) < (ns.length : Int) := by omega
      have HR2 := hide (And.intro hW (And.intro hE (And.intro hT hLi)))
      have hyl := gather_len hE hm hxl hlen
      have HD := hide (encAll_drop m ns k hlt)
      clear hW hE hT hLi
      generalize ns.getD k 0 = n at *
      go_wp2_with fail
      obtain ⟨wo, rfl⟩ : ∃ wo : World, wo = wr := ⟨_, rfl⟩
      go_loopw [8] (fun i wr => ∃ (j : Nat) (u' : Value) (zs : List Int), j ≤ m ∧ (∃ x : Int, x = (j : Int) - 1 ∧ i = .int .i64 x) ∧ Wr wr b u' zs ∧ zs ++ encN n j = ys ++ encN n m ∧ Touch (WT b v) w wr ∧ Lies v u' w.heap.size) (fun i _ => ((intOf i) + 1).toNat)
      case atStart => 
        obtain ⟨hW, hE, hT, hLi⟩ := unhide HR2
        exact ⟨m, u, ys, Nat.le_refl _, ⟨_, rfl, rfl⟩, hW, rfl, hT, hLi⟩
      case round =>
        obtain ⟨j, u', zs, hj, ⟨x, hx, rfl⟩, hW', hE', hT', hLi'⟩ := hrel
        have hzl := gather_len2 hE' hm hyl
        by_cases hj0 : 0 < j
        · obtain ⟨q, rfl⟩ : ∃ q, j = q + 1 := ⟨j - 1, by omega⟩
          obtain rfl : x = (q : Int) := by omega
          have hq : q ≤ 3 := by omega
          clear hx
          have hcell := hW'.1
          have hfr := hW'.2.1
          have hbl := hW'.2.2.1
          have HW2 := hide hW'
          have HE2 := hide hE'
          have HT2 := hide hT'
          have HL2 := hide hLi'
          have hne : some b ≠ u'.ownBlock := fun e => by have := (hW'.row b e.symm).1; omega
          have HN := hide hne
          clear hW' hE' hT' hLi' hne
          have m1 : IntKind.i64.wrap (8 * (q : Int)) = 8 * (q : Int) := wrapI _ (by omega) (by omega)
          have m2 := wrapB n q
          have p0 : 0 ≤ 8 * (q : Int) := by omega
          have p1 : 8 * (q : Int) ≤ 64 := by omega
          go_wp2_with fail
          go_region_law (refine step_append_lies _ (by rfl) _ _ _ (by rfl) (b + 1) 5 i0 _ 1 1 Tryz.underlying127 hi hz0 hz1 hz2 rfl (by omega) u' zs.length (zs.map (Value.int .u8)) (by rfl) (((unhide HW2).alloc _).drew).2.2.2.1 ⟨wr.heap.size, 0, none⟩ 1 1 [_] (by rfl) (by rfl) (World.news_of_block (cs := #[_]) (t := 5) (fr := (0, 0)) (heap_alloc_new wr _)) (by simp [Value.oneCell']) (by omega) (by unfold maxLen; omega) (by omega) (by simp; omega) (wr.heap.size + 1) (by simp) ?_; intro gg capg w1 hown1 hgrow hat hlt1; have hc1 : w1.cell? ⟨b, 0, none⟩ = some u' := (hgrow.cell_far ⟨b, 0, none⟩ (by simp; omega) (unhide HN)).trans (((unhide HW2).alloc _).drew).1; have hf1 : w1.frozen? ⟨b, 0, none⟩ = false := (hgrow.frozen_far ⟨b, 0, none⟩ (by simp; omega) (unhide HN)).trans (((unhide HW2).alloc _).drew).2.1)
          all_goals
            have hx0 : 0 ≤ n / 256 ^ q % 256 := by omega
            have hx1 : n / 256 ^ q % 256 ≤ 255 := by omega
            have R := hide ((unhide HW2).pushed hown1 hgrow hat hx0 hx1)
            have hE2 : Hid ((zs ++ [n / 256 ^ q % 256]) ++ encN n q = ys ++ encN n m) := hide (by rw [List.append_assoc]; exact unhide HE2)
            clear hown1 hgrow hat hlt1 hc1 hf1 m2
            generalize n / 256 ^ q % 256 = y at *
            go_wp2_with fail
            go_roundw
            case rel => exact ⟨q, _, _, by omega, ⟨_, rfl, rfl⟩, (unhide R).1, unhide hE2, (unhide HT2).wr (unhide HL2) (unhide R).2.1, (unhide HL2).trans (unhide R).2.2 (unhide HT2).size⟩
            case measure => simp [intOf]
        · obtain rfl : j = 0 := by omega
          obtain rfl : x = -1 := by omega
          have hE3 := hide (by have := hE'; simp only [encN, List.append_nil] at this; exact this)
          have R := hide (And.intro hW' (And.intro hT' hLi'))
          clear hW' hE' hT' hLi' hx
          go_wp2_with fail
          go_roundw
          case rel => exact ⟨k + 1, u', zs, by omega, by go_num, (unhide R).1, by rw [unhide hE3, List.append_assoc, ← unhide HD]; exact (unhide HR2).2.1, (unhide R).2.1, (unhide R).2.2⟩
          case measure => simp [intOf]; omega
    · obtain rfl : k = ns.length := by omega
      have R := hide (And.intro hW (And.intro hE (And.intro hT hLi)))
      clear hW hE hT hLi
      go_wp2_with fail
      go_end0
      refine ⟨rfl, u, ?_, (unhide R).2.2.1, (unhide R).2.2.2⟩
      have e := (unhide R).2.1
      rw [List.drop_length] at e
      simp only [encAll, List.append_nil] at e
      rw [← e]; exact (unhide R).1
end Go.Proofs.YtnhhnjmjodmacaaGreatDoor
namespace Go.Proofs.YtnhhnjmjodmacaaGreatDoor
open Go.ChangeShapes Go.WideShapes Go.ChangeAt Go.RowKit
set_option linter.unusedVariables false
/-- Each text behind a byte that tells its length. -/
def textsL : List ByteArray → List Int
  | [] => []
  | s :: r => (s.size : Int) :: (bytesI s ++ textsL r)
def sizes : List ByteArray → Nat
  | [] => 0
  | s :: r => s.size + 1 + sizes r
theorem textsL_len (l : List ByteArray) : (textsL l).length = sizes l := by
  induction l with
  | nil => rfl
  | cons s r ih => simp [textsL, sizes, bytesI_len, ih]; omega
theorem textsL_drop (l : List ByteArray) (k : Nat) (h : k < l.length) : textsL (l.drop k) = ((l.getD k ByteArray.empty).size : Int) :: (bytesI (l.getD k ByteArray.empty) ++ textsL (l.drop (k + 1))) := by
  rw [List.drop_eq_getElem_cons h, List.getD_eq_getElem?_getD, List.getElem?_eq_getElem h]; rfl

/-- One number, in a list that was laid just now. -/
theorem numbers_new1 (b m : Nat) (mi : Int) (hmi : mi = (m : Int)) (v : Value) (xs : List Int) (n : Int) (w : World) (h : Wr w b v xs) (Lb : Nat) (hLb : w.heap.size = Lb) (hm : m ≤ 4) (h0 : 0 ≤ n) (h1 : n < 4294967296) (hxl : xs.length ≤ 70000) :
    Calls Tryz.prog 148 #[.pointer (some ⟨b, 0, none⟩), .int .i64 mi, .slice (some ⟨Lb, 0, none⟩) 1 1] (w.alloc (.cells #[.int .i64 n] 3)) fun e w' => e = .returned (.tuple #[]) ∧ ∃ v', Wr w' b v' (xs ++ encN n m) ∧ Touch (WT b v) w w' ∧ Lies v v' w.heap.size := by
  subst hmi hLb
  refine (numbers_any b m v xs [n] w.heap.size 0 1 _ (h.alloc _) hm (by simp) (by have := h.lt; omega) (fun e => by have := (h.row _ e).2; omega) (fun i hi => ?_) (fun i => ?_) (by simp) hxl).mono ?_
  · have hi0 : i = 0 := by simpa using hi
    subst hi0
    rw [World.cell?_alloc_at _ _ _ _ rfl]; rfl
  · cases i with
    | zero => simp; omega
    | succ i => simp
  · rintro e w' ⟨rfl, v', hW, hT, hL⟩
    refine ⟨rfl, v', by simpa [encAll] using hW, ((Touch.refl (WT b v) w).alloc _).trans hT (fun _ _ h => h), fun k hk => ?_⟩
    rcases hL k hk with e | e
    · exact .inl e
    · right; simp at e; omega
/-- Two numbers, likewise. -/
theorem numbers_new2 (b m : Nat) (mi : Int) (hmi : mi = (m : Int)) (v : Value) (xs : List Int) (n n2 : Int) (w : World) (h : Wr w b v xs) (Lb : Nat) (hLb : w.heap.size = Lb) (hm : m ≤ 4) (h0 : 0 ≤ n) (h1 : n < 4294967296) (h02 : 0 ≤ n2) (h12 : n2 < 4294967296) (hxl : xs.length ≤ 70000) :
    Calls Tryz.prog 148 #[.pointer (some ⟨b, 0, none⟩), .int .i64 mi, .slice (some ⟨Lb, 0, none⟩) 2 2] (w.alloc (.cells #[.int .i64 n, .int .i64 n2] 3)) fun e w' => e = .returned (.tuple #[]) ∧ ∃ v', Wr w' b v' (xs ++ (encN n m ++ encN n2 m)) ∧ Touch (WT b v) w w' ∧ Lies v v' w.heap.size := by
  subst hmi hLb
  refine (numbers_any b m v xs [n, n2] w.heap.size 0 2 _ (h.alloc _) hm (by simp) (by have := h.lt; omega) (fun e => by have := (h.row _ e).2; omega) (fun i hi => ?_) (fun i => ?_) (by simp) hxl).mono ?_
  · rcases (show i = 0 ∨ i = 1 by simp at hi; omega) with rfl | rfl
    · rw [World.cell?_alloc_at _ _ _ _ rfl]; rfl
    · rw [World.cell?_alloc_at _ _ _ _ rfl]; rfl
  · cases i with
    | zero => simp; omega
    | succ i => cases i with
      | zero => simp; omega
      | succ i => simp
  · rintro e w' ⟨rfl, v', hW, hT, hL⟩
    refine ⟨rfl, v', by simpa [encAll] using hW, ((Touch.refl (WT b v) w).alloc _).trans hT (fun _ _ h => h), fun k hk => ?_⟩
    rcases hL k hk with e | e
    · exact .inl e
    · right; simp at e; omega

/-- A writer that was laid just now. -/
theorem Wr.new (w : World) (b : Nat) (hb : w.heap.size = b) (t : TypeId) : Wr (w.alloc (.cells #[.slice none 0 0] t)) b (.slice none 0 0) [] := by
  subst hb
  refine ⟨by rw [World.cell?_alloc_at _ _ _ _ rfl]; rfl, by simp, by simp, World.ownsRow_nil _ _ _ _, fun i => by simp⟩
end Go.Proofs.YtnhhnjmjodmacaaGreatDoor
