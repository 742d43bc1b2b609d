/- What the proof of the claim needs (joined by program): Cmd WrN WrB WrT CmdB ApP Bx63 ClS LeI Tk. -/
import Derived.Test.YtlbcdngidfjogaaGreatDoorQba00
import Derived.Test.YtlbcdngidfjogaaGreatDoorQba03
import Derived.Test.YtlbcdngidfjogaaGreatDoorQba05
import Derived.Test.YtlbcdngidfjogaaGreatDoorQba04
import Derived.Test.YtlbcdngidfjogaaGreatDoorQba07
import Derived.Test.YtlbcdngidfjogaaGreatDoorQba06
import Derived.Deep.RegionLaw
import Derived.WalkSpells
import Derived.SliceStrings
import Derived.Deep.RegionHeld3
import Derived.Deep.DeepCutAuto
import Derived.Deep.Fields
import Derived.Deep.Slices
import Derived.Lib.BitFns
namespace Go.Proofs.YtlbcdngidfjogaaGreatDoor
set_option maxRecDepth 100000
set_option maxHeartbeats 8000000
open Go.ChangeShapes Go.WideShapes Go.ChangeAt Go.RowKit
set_option linter.unusedVariables false
theorem keyOK_any (s : ByteArray) (w : World) (hs : s.size ≤ maxLen) :
  Calls Tryz.prog 21 #[.string s] w fun e w' => e = .returned (.bool (inB s.size 1 24)) ∧ w' = w := by
 unfold maxLen at hs
 go_enter Tryz.func21, Tryz.ntmps21
 go_wp2_with fail
 refine (within_any _ _ _ _).mono ?_
 rintro e w' ⟨rfl, rfl⟩
 go_wp2
 go_ret
 exact ⟨rfl, rfl⟩
theorem l02Key_any (s : ByteArray) (w : World) (hs : s.size ≤ maxLen) :
  Calls Tryz.prog 23 #[.string s] w fun e w' => e = .returned (.bool (inB s.size 1 24)) ∧ w' = w := by
 unfold maxLen at hs
 by_cases h1 : 1 ≤ (s.size : Int)
 ·go_enter Tryz.func23, Tryz.ntmps23
  go_wp2
  go_ret
  exact ⟨ret_bool (by simp [inB, h1]), rfl⟩
 ·have H := Hd (show inB s.size 1 24 = false by simp [inB]; omega)
  go_enter Tryz.func23, Tryz.ntmps23
  go_wp2
  go_ret
  exact ⟨ret_bool (uh H).symm, rfl⟩

def cmdOK (k s q : Int) (key val : ByteArray) : Bool :=
 if inB s 0 65535 && inB q 0 65535 && decide (val.size ≤ 60) then
  (if k = 1 ∨ k = 2 then inB key.size 1 24 else if k = 3 then inB key.size 1 24 && emptyB val else if k = 4 ∨ k = 5 then emptyB key && emptyB val && decide (q = 0) else false)
 else false

theorem implCommandOK_any (k s q : Int) (key val : ByteArray) (w : World) (hk : key.size ≤ maxLen) (hv : val.size ≤ maxLen) :
  Calls Tryz.prog 11 #[.agg #[.int .i64 k, .int .i64 s, .int .i64 q, .string key, .string val]] w fun e w' => e = .returned (.bool (cmdOK k s q key val)) ∧ Below w.heap.size w w' := by
 unfold maxLen at hk hv
 have HB : ∀ o, Below w.heap.size w (w.alloc o) := fun o => (Below.refl _ _).alloc (Nat.le_refl _) o
 have H5 := Hd HB
 clear HB
 rcases Bool.eq_false_or_eq_true (inB s 0 65535) with h1 | h1
 case inr =>
  have H := Hd (show cmdOK k s q key val = false by simp [cmdOK, h1])
  go_enter Tryz.func11, Tryz.ntmps11
  go_wp2_with (first | (go_at_call 20; refine (within_any _ _ _ _).mono ?_; rintro e w' ⟨rfl, rfl⟩) | (go_at_call 21; refine (keyOK_any _ _ (by unfold maxLen; omega)).mono ?_; rintro e w' ⟨rfl, rfl⟩))
  go_ret
  exact ⟨ret_bool (uh H).symm, uh H5 _⟩
 rcases Bool.eq_false_or_eq_true (inB q 0 65535) with h2 | h2
 case inr =>
  have H := Hd (show cmdOK k s q key val = false by simp [cmdOK, h2])
  go_enter Tryz.func11, Tryz.ntmps11
  go_wp2_with (first | (go_at_call 20; refine (within_any _ _ _ _).mono ?_; rintro e w' ⟨rfl, rfl⟩) | (go_at_call 21; refine (keyOK_any _ _ (by unfold maxLen; omega)).mono ?_; rintro e w' ⟨rfl, rfl⟩))
  go_ret
  exact ⟨ret_bool (uh H).symm, uh H5 _⟩
 by_cases h3 : (60 : Int) < (val.size : Int)
 ·have H := Hd (show cmdOK k s q key val = false by simp [cmdOK]; omega)
  go_enter Tryz.func11, Tryz.ntmps11
  go_wp2_with (first | (go_at_call 20; refine (within_any _ _ _ _).mono ?_; rintro e w' ⟨rfl, rfl⟩) | (go_at_call 21; refine (keyOK_any _ _ (by unfold maxLen; omega)).mono ?_; rintro e w' ⟨rfl, rfl⟩))
  go_ret
  exact ⟨ret_bool (uh H).symm, uh H5 _⟩
 have h3' : val.size ≤ 60 := by omega
 have E := Hd (show cmdOK k s q key val = (if k = 1 ∨ k = 2 then inB key.size 1 24 else if k = 3 then inB key.size 1 24 && emptyB val else if k = 4 ∨ k = 5 then emptyB key && emptyB val && decide (q = 0) else false) by simp [cmdOK, h1, h2, h3'])
 clear h3'
 by_cases k1 : k = 1
 ·have H := Hd ((uh E).trans (by rw [if_pos (Or.inl k1)]))
  subst k1
  go_enter Tryz.func11, Tryz.ntmps11
  go_wp2_with (first | (go_at_call 20; refine (within_any _ _ _ _).mono ?_; rintro e w' ⟨rfl, rfl⟩) | (go_at_call 21; refine (keyOK_any _ _ (by unfold maxLen; omega)).mono ?_; rintro e w' ⟨rfl, rfl⟩))
  go_ret
  exact ⟨ret_bool (uh H).symm, uh H5 _⟩
 by_cases k2 : k = 2
 ·have H := Hd ((uh E).trans (by rw [if_pos (Or.inr k2)]))
  subst k2
  go_enter Tryz.func11, Tryz.ntmps11
  go_wp2_with (first | (go_at_call 20; refine (within_any _ _ _ _).mono ?_; rintro e w' ⟨rfl, rfl⟩) | (go_at_call 21; refine (keyOK_any _ _ (by unfold maxLen; omega)).mono ?_; rintro e w' ⟨rfl, rfl⟩))
  go_ret
  exact ⟨ret_bool (uh H).symm, uh H5 _⟩
 by_cases k3 : k = 3
 ·have H := Hd ((uh E).trans (by rw [if_neg (by omega), if_pos k3]))
  subst k3
  rcases Bool.eq_false_or_eq_true (inB key.size 1 24) with h4 | h4
  ·go_enter Tryz.func11, Tryz.ntmps11
   go_wp2_with (first | (go_at_call 20; refine (within_any _ _ _ _).mono ?_; rintro e w' ⟨rfl, rfl⟩) | (go_at_call 21; refine (keyOK_any _ _ (by unfold maxLen; omega)).mono ?_; rintro e w' ⟨rfl, rfl⟩))
   all_goals
    go_ret
    exact ⟨ret_bool (by rw [uh H, h4]; simp [emptyB]), uh H5 _⟩
  ·go_enter Tryz.func11, Tryz.ntmps11
   go_wp2_with (first | (go_at_call 20; refine (within_any _ _ _ _).mono ?_; rintro e w' ⟨rfl, rfl⟩) | (go_at_call 21; refine (keyOK_any _ _ (by unfold maxLen; omega)).mono ?_; rintro e w' ⟨rfl, rfl⟩))
   go_ret
   exact ⟨ret_bool (by rw [uh H, h4]; simp), uh H5 _⟩
 by_cases k4 : k = 4 ∨ k = 5
 ·have H := Hd ((uh E).trans (by rw [if_neg (by omega), if_neg k3, if_pos k4]))
  clear E k1 k2 k3
  have H4 := Hd k4
  clear k4
  rcases Bool.eq_false_or_eq_true (emptyB key) with h4 | h4 <;> rcases Bool.eq_false_or_eq_true (emptyB val) with h5 | h5
  all_goals
   unfold emptyB at h4 h5
   rcases uh H4 with k4 | k4
   all_goals
    subst k4
    go_enter Tryz.func11, Tryz.ntmps11
    go_wp2_with (first | (go_at_call 20; refine (within_any _ _ _ _).mono ?_; rintro e w' ⟨rfl, rfl⟩) | (go_at_call 21; refine (keyOK_any _ _ (by unfold maxLen; omega)).mono ?_; rintro e w' ⟨rfl, rfl⟩))
    all_goals
     go_ret
     refine ⟨ret_bool ?_, uh H5 _⟩
     rw [uh H]
     simp [emptyB, h4, h5]
     try rfl
 ·have H := Hd ((uh E).trans (by rw [if_neg (by omega), if_neg k3, if_neg k4]))
  have k5 : ¬ k = 4 := by omega
  have k6 : ¬ k = 5 := by omega
  clear k4 E
  go_enter Tryz.func11, Tryz.ntmps11
  go_wp2_with (first | (go_at_call 20; refine (within_any _ _ _ _).mono ?_; rintro e w' ⟨rfl, rfl⟩) | (go_at_call 21; refine (keyOK_any _ _ (by unfold maxLen; omega)).mono ?_; rintro e w' ⟨rfl, rfl⟩))
  go_ret
  exact ⟨ret_bool (uh H).symm, uh H5 _⟩
theorem specCommandOK_any (k s q : Int) (key val : ByteArray) (w : World) (hk : key.size ≤ maxLen) (hv : val.size ≤ maxLen) :
  Calls Tryz.prog 13 #[.agg #[.int .i64 k, .int .i64 s, .int .i64 q, .string key, .string val]] w fun e w' => e = .returned (.bool (cmdOK k s q key val)) ∧ Below w.heap.size w w' := by
 unfold maxLen at hk hv
 have HB : ∀ o, Below w.heap.size w (w.alloc o) := fun o => (Below.refl _ _).alloc (Nat.le_refl _) o
 have H5 := Hd HB
 clear HB
 rcases Bool.eq_false_or_eq_true (inB s 0 65535) with h1 | h1
 case inr =>
  have H := Hd (show cmdOK k s q key val = false by simp [cmdOK, h1])
  go_enter Tryz.func13, Tryz.ntmps13
  go_wp2_with (first | (go_at_call 22; refine (l01In_any _ _ _ _).mono ?_; rintro e w' ⟨rfl, rfl⟩) | (go_at_call 23; refine (l02Key_any _ _ (by unfold maxLen; omega)).mono ?_; rintro e w' ⟨rfl, rfl⟩))
  go_ret
  exact ⟨ret_bool (uh H).symm, uh H5 _⟩
 rcases Bool.eq_false_or_eq_true (inB q 0 65535) with h2 | h2
 case inr =>
  have H := Hd (show cmdOK k s q key val = false by simp [cmdOK, h2])
  go_enter Tryz.func13, Tryz.ntmps13
  go_wp2_with (first | (go_at_call 22; refine (l01In_any _ _ _ _).mono ?_; rintro e w' ⟨rfl, rfl⟩) | (go_at_call 23; refine (l02Key_any _ _ (by unfold maxLen; omega)).mono ?_; rintro e w' ⟨rfl, rfl⟩))
  go_ret
  exact ⟨ret_bool (uh H).symm, uh H5 _⟩
 by_cases h3 : (60 : Int) < (val.size : Int)
 ·have H := Hd (show cmdOK k s q key val = false by simp [cmdOK]; omega)
  go_enter Tryz.func13, Tryz.ntmps13
  go_wp2_with (first | (go_at_call 22; refine (l01In_any _ _ _ _).mono ?_; rintro e w' ⟨rfl, rfl⟩) | (go_at_call 23; refine (l02Key_any _ _ (by unfold maxLen; omega)).mono ?_; rintro e w' ⟨rfl, rfl⟩))
  go_ret
  exact ⟨ret_bool (uh H).symm, uh H5 _⟩
 have h3' : val.size ≤ 60 := by omega
 have E := Hd (show cmdOK k s q key val = (if k = 1 ∨ k = 2 then inB key.size 1 24 else if k = 3 then inB key.size 1 24 && emptyB val else if k = 4 ∨ k = 5 then emptyB key && emptyB val && decide (q = 0) else false) by simp [cmdOK, h1, h2, h3'])
 clear h3'
 by_cases k1 : k = 1
 ·have H := Hd ((uh E).trans (by rw [if_pos (Or.inl k1)]))
  subst k1
  go_enter Tryz.func13, Tryz.ntmps13
  go_wp2_with (first | (go_at_call 22; refine (l01In_any _ _ _ _).mono ?_; rintro e w' ⟨rfl, rfl⟩) | (go_at_call 23; refine (l02Key_any _ _ (by unfold maxLen; omega)).mono ?_; rintro e w' ⟨rfl, rfl⟩))
  go_ret
  exact ⟨ret_bool (uh H).symm, uh H5 _⟩
 by_cases k2 : k = 2
 ·have H := Hd ((uh E).trans (by rw [if_pos (Or.inr k2)]))
  subst k2
  go_enter Tryz.func13, Tryz.ntmps13
  go_wp2_with (first | (go_at_call 22; refine (l01In_any _ _ _ _).mono ?_; rintro e w' ⟨rfl, rfl⟩) | (go_at_call 23; refine (l02Key_any _ _ (by unfold maxLen; omega)).mono ?_; rintro e w' ⟨rfl, rfl⟩))
  go_ret
  exact ⟨ret_bool (uh H).symm, uh H5 _⟩
 by_cases k3 : k = 3
 ·have H := Hd ((uh E).trans (by rw [if_neg (by omega), if_pos k3]))
  subst k3
  rcases Bool.eq_false_or_eq_true (inB key.size 1 24) with h4 | h4
  ·go_enter Tryz.func13, Tryz.ntmps13
   go_wp2_with (first | (go_at_call 22; refine (l01In_any _ _ _ _).mono ?_; rintro e w' ⟨rfl, rfl⟩) | (go_at_call 23; refine (l02Key_any _ _ (by unfold maxLen; omega)).mono ?_; rintro e w' ⟨rfl, rfl⟩))
   all_goals
    go_ret
    exact ⟨ret_bool (by rw [uh H, h4]; simp [emptyB]), uh H5 _⟩
  ·go_enter Tryz.func13, Tryz.ntmps13
   go_wp2_with (first | (go_at_call 22; refine (l01In_any _ _ _ _).mono ?_; rintro e w' ⟨rfl, rfl⟩) | (go_at_call 23; refine (l02Key_any _ _ (by unfold maxLen; omega)).mono ?_; rintro e w' ⟨rfl, rfl⟩))
   go_ret
   exact ⟨ret_bool (by rw [uh H, h4]; simp), uh H5 _⟩
 by_cases k4 : k = 4 ∨ k = 5
 ·have H := Hd ((uh E).trans (by rw [if_neg (by omega), if_neg k3, if_pos k4]))
  clear E k1 k2 k3
  have H4 := Hd k4
  clear k4
  rcases Bool.eq_false_or_eq_true (emptyB key) with h4 | h4 <;> rcases Bool.eq_false_or_eq_true (emptyB val) with h5 | h5
  all_goals
   unfold emptyB at h4 h5
   rcases uh H4 with k4 | k4
   all_goals
    subst k4
    go_enter Tryz.func13, Tryz.ntmps13
    go_wp2_with (first | (go_at_call 22; refine (l01In_any _ _ _ _).mono ?_; rintro e w' ⟨rfl, rfl⟩) | (go_at_call 23; refine (l02Key_any _ _ (by unfold maxLen; omega)).mono ?_; rintro e w' ⟨rfl, rfl⟩))
    all_goals
     go_ret
     refine ⟨ret_bool ?_, uh H5 _⟩
     rw [uh H]
     simp [emptyB, h4, h5]
     try rfl
 ·have H := Hd ((uh E).trans (by rw [if_neg (by omega), if_neg k3, if_neg k4]))
  have k5 : ¬ k = 4 := by omega
  have k6 : ¬ k = 5 := by omega
  clear k4 E
  go_enter Tryz.func13, Tryz.ntmps13
  go_wp2_with (first | (go_at_call 22; refine (l01In_any _ _ _ _).mono ?_; rintro e w' ⟨rfl, rfl⟩) | (go_at_call 23; refine (l02Key_any _ _ (by unfold maxLen; omega)).mono ?_; rintro e w' ⟨rfl, rfl⟩))
  go_ret
  exact ⟨ret_bool (uh H).symm, uh H5 _⟩
def encN (n : Int) : Nat → List Int
 | 0 => []
 | m + 1 => (n / 256 ^ m % 256) :: encN n m
def encAll (m : Nat) : List Int → List Int
 | [] => []
 | n :: r => encN n m ++ encAll m r
theorem encN_len (n : Int) (m : Nat) : (encN n m).length = m := by
 induction m with
 | zero => rfl
 | succ m ih => simp [encN, ih]
theorem encAll_len (m : Nat) (l : List Int) : (encAll m l).length = m * l.length := by
 induction l with
 | nil => rfl
 | cons n r ih => simp [encAll, encN_len, ih, Nat.mul_add]; omega

theorem encAll_drop (m : Nat) (l : List Int) (k : Nat) (h : k < l.length) : encAll m (l.drop k) = encN (l.getD k 0) m ++ encAll m (l.drop (k + 1)) := by
 rw [List.drop_eq_getElem_cons h, List.getD_eq_getElem?_getD, List.getElem?_eq_getElem h]; rfl
theorem gather_len {m k : Nat} {xs ys ns : List Int} (h : ys ++ encAll m (ns.drop k) = xs ++ encAll m ns) (hm : m ≤ 4) (hx : xs.length ≤ 70000) (hn : ns.length ≤ 4096) : ys.length ≤ 86400 := by
 have e := congrArg List.length h
 rw [List.length_append, List.length_append, encAll_len m ns] at e
 have : m * ns.length ≤ 4 * 4096 := Nat.mul_le_mul hm hn
 omega
theorem gather_len2 {m j : Nat} {n : Int} {zs ys : List Int} (h : zs ++ encN n j = ys ++ encN n m) (hm : m ≤ 4) (hy : ys.length ≤ 86400) : zs.length ≤ 86404 := by
 have e := congrArg List.length h
 rw [List.length_append, List.length_append, encN_len, encN_len] at e
 omega
theorem wrapI (n : Int) (h0 : 0 ≤ n) (h1 : n < 9223372036854775808) : IntKind.i64.wrap n = n := by
 simp only [IntKind.wrap, IntKind.bits, IntKind.signed]
 simp
 omega
theorem wrapB (n : Int) (q : Nat) : IntKind.u8.wrap (n / 2 ^ (8 * (q : Int)).toNat) = n / 256 ^ q % 256 := by
 have e : (2 : Int) ^ (8 * (q : Int)).toNat = 256 ^ q := by
  rw [show (8 * (q : Int)).toNat = 8 * q by omega, Int.pow_mul]; rfl
 rw [e]; simp [IntKind.wrap, IntKind.bits, IntKind.signed]
theorem numbers_any (b m : Nat) (v : Value) (xs ns : List Int) (L off cap : Nat) (w : World) (h : Wr w b v xs) (hm : m ≤ 4) (hL : L < w.heap.size) (hLb : L ≠ b) (hLv : v.ownBlock ≠ some L)
  (hc : ∀ i, i < ns.length → w.cell? ⟨L, off + i, none⟩ = some (.int .i64 (ns.getD i 0))) (hr : ∀ i, 0 ≤ ns.getD i 0 ∧ ns.getD i 0 < 4294967296) (hlen : ns.length ≤ 4096) (hxl : xs.length ≤ 70000) :
  Calls Tryz.prog 90 #[.pointer (some ⟨b, 0, none⟩), .int .i64 m, .slice (some ⟨L, off, none⟩) ns.length cap] w fun e w' => e = .returned (.tuple #[]) ∧ ∃ v', Wr w' b v' (xs ++ encAll m ns) ∧ Touch (WT b v) w w' ∧ Lies v v' w.heap.size := by
 obtain ⟨i0, hi, hz0, hz1, hz2⟩ := info_parts info5
 have HW := Hd h
 have HC := Hd hc
 have HR := Hd hr
 clear h hc hr
 go_enter Tryz.func90, Tryz.ntmps90
 go_wp2_with fail
 go_loopw [7, 8, 11] (fun _ _ i wr => ∃ (k : Nat) (u : Value) (ys : List Int), k ≤ ns.length ∧ i = .int .i64 k ∧ Wr wr b u ys ∧ ys ++ encAll m (ns.drop k) = xs ++ encAll m ns ∧ Touch (WT b v) w wr ∧ Lies v u w.heap.size) (fun _ _ i _ => ns.length - (intOf i).toNat)
 case atStart => exact ⟨0, v, xs, Nat.zero_le _, rfl, uh HW, rfl, Touch.refl _ _, Lies.refl _ _⟩
 case round =>
  obtain ⟨k, u, ys, hk, rfl, hW, hE, hT, hLi⟩ := hrel
  by_cases hlt : k < ns.length
  ·have hs1 : wr.cell? ⟨L, off + k, none⟩ = some (.int .i64 (ns.getD k 0)) := by
    rw [hT.cell (p := ⟨L, off + k, none⟩) hL (fun hx => by rcases hx with h1 | h1; exact hLb h1; exact hLv h1)]
    exact uh HC k hlt
   have hr1 := uh HR k
   have hk0 : (0 : Int) ≤ (k : Int) := by omega
   have hk1 : (k : Int) < (ns.length : Int) := by omega
   have HR2 := Hd (And.intro hW (And.intro hE (And.intro hT hLi)))
   have hyl := gather_len hE hm hxl hlen
   have HD := Hd (encAll_drop m ns k hlt)
   clear hW hE hT hLi
   generalize ns.getD k 0 = n at *
   go_wp2_with fail
   obtain ⟨wo, rfl⟩ : ∃ wo : World, wo = wr := ⟨_, rfl⟩
   go_loopw [8] (fun i wr => ∃ (j : Nat) (u' : Value) (zs : List Int), j ≤ m ∧ (∃ x : Int, x = (j : Int) - 1 ∧ i = .int .i64 x) ∧ Wr wr b u' zs ∧ zs ++ encN n j = ys ++ encN n m ∧ Touch (WT b v) w wr ∧ Lies v u' w.heap.size) (fun i _ => ((intOf i) + 1).toNat)
   case atStart => 
    obtain ⟨hW, hE, hT, hLi⟩ := uh HR2
    exact ⟨m, u, ys, Nat.le_refl _, ⟨_, rfl, rfl⟩, hW, rfl, hT, hLi⟩
   case round =>
    obtain ⟨j, u', zs, hj, ⟨x, hx, rfl⟩, hW', hE', hT', hLi'⟩ := hrel
    have hzl := gather_len2 hE' hm hyl
    by_cases hj0 : 0 < j
    ·obtain ⟨q, rfl⟩ : ∃ q, j = q + 1 := ⟨j - 1, by omega⟩
     obtain rfl : x = (q : Int) := by omega
     have hq : q ≤ 3 := by omega
     clear hx
     have hcell := hW'.1
     have hfr := hW'.2.1
     have hbl := hW'.2.2.1
     have HW2 := Hd hW'
     have HE2 := Hd hE'
     have HT2 := Hd hT'
     have HL2 := Hd hLi'
     have hne : some b ≠ u'.ownBlock := fun e => by have := (hW'.row b e.symm).1; omega
     have HN := Hd hne
     clear hW' hE' hT' hLi' hne
     have m1 : IntKind.i64.wrap (8 * (q : Int)) = 8 * (q : Int) := wrapI _ (by omega) (by omega)
     have m2 := wrapB n q
     have p0 : 0 ≤ 8 * (q : Int) := by omega
     have p1 : 8 * (q : Int) ≤ 64 := by omega
     go_wp2_with fail
     go_region_law (refine step_append_lies _ (by rfl) _ _ _ (by rfl) (b + 1) 5 i0 _ 1 1 Tryz.underlying22 hi hz0 hz1 hz2 rfl (by omega) u' zs.length (zs.map (Value.int .u8)) (by rfl) (((uh HW2).alloc _).drew).2.2.2.1 ⟨wr.heap.size, 0, none⟩ 1 1 [_] (by rfl) (by rfl) (World.news_of_block (cs := #[_]) (t := 5) (fr := (0, 0)) (heap_alloc_new wr _)) (by simp [Value.oneCell']) (by omega) (by unfold maxLen; omega) (by omega) (by simp; omega) (wr.heap.size + 1) (by simp) ?_; intro gg capg w1 hown1 hgrow hat hlt1; have hc1 : w1.cell? ⟨b, 0, none⟩ = some u' := (hgrow.cell_far ⟨b, 0, none⟩ (by simp; omega) (uh HN)).trans (((uh HW2).alloc _).drew).1; have hf1 : w1.frozen? ⟨b, 0, none⟩ = false := (hgrow.frozen_far ⟨b, 0, none⟩ (by simp; omega) (uh HN)).trans (((uh HW2).alloc _).drew).2.1)
     all_goals
      have hx0 : 0 ≤ n / 256 ^ q % 256 := by omega
      have hx1 : n / 256 ^ q % 256 ≤ 255 := by omega
      have R := Hd ((uh HW2).pushed hown1 hgrow hat hx0 hx1)
      have hE2 : Hid ((zs ++ [n / 256 ^ q % 256]) ++ encN n q = ys ++ encN n m) := Hd (by rw [List.append_assoc]; exact uh HE2)
      clear hown1 hgrow hat hlt1 hc1 hf1 m2
      generalize n / 256 ^ q % 256 = y at *
      go_wp2_with fail
      go_roundw
      case rel => exact ⟨q, _, _, by omega, ⟨_, rfl, rfl⟩, (uh R).1, uh hE2, (uh HT2).wr (uh HL2) (uh R).2.1, (uh HL2).trans (uh R).2.2 (uh HT2).size⟩
      case measure => simp [intOf]
    ·obtain rfl : j = 0 := by omega
     obtain rfl : x = -1 := by omega
     have hE3 := Hd (by have := hE'; simp only [encN, List.append_nil] at this; exact this)
     have R := Hd (And.intro hW' (And.intro hT' hLi'))
     clear hW' hE' hT' hLi' hx
     go_wp2_with fail
     go_roundw
     case rel => exact ⟨k + 1, u', zs, by omega, by go_num, (uh R).1, by rw [uh hE3, List.append_assoc, ← uh HD]; exact (uh HR2).2.1, (uh R).2.1, (uh R).2.2⟩
     case measure => simp [intOf]; omega
  ·obtain rfl : k = ns.length := by omega
   have R := Hd (And.intro hW (And.intro hE (And.intro hT hLi)))
   clear hW hE hT hLi
   go_wp2_with fail
   go_end0
   refine ⟨rfl, u, ?_, (uh R).2.2.1, (uh R).2.2.2⟩
   have e := (uh R).2.1
   rw [List.drop_length] at e
   simp only [encAll, List.append_nil] at e
   rw [← e]; exact (uh R).1
def textsL : List ByteArray → List Int
 | [] => []
 | s :: r => (s.size : Int) :: (bytesI s ++ textsL r)
def sizes : List ByteArray → Nat
 | [] => 0
 | s :: r => s.size + 1 + sizes r
theorem textsL_len (l : List ByteArray) : (textsL l).length = sizes l := by
 induction l with
 | nil => rfl
 | cons s r ih => simp [textsL, sizes, bytesI_len, ih]; omega
theorem textsL_drop (l : List ByteArray) (k : Nat) (h : k < l.length) : textsL (l.drop k) = ((l.getD k ByteArray.empty).size : Int) :: (bytesI (l.getD k ByteArray.empty) ++ textsL (l.drop (k + 1))) := by
 rw [List.drop_eq_getElem_cons h, List.getD_eq_getElem?_getD, List.getElem?_eq_getElem h]; rfl

theorem numbers_new1 (b m : Nat) (mi : Int) (hmi : mi = (m : Int)) (v : Value) (xs : List Int) (n : Int) (w : World) (h : Wr w b v xs) (Lb : Nat) (hLb : w.heap.size = Lb) (hm : m ≤ 4) (h0 : 0 ≤ n) (h1 : n < 4294967296) (hxl : xs.length ≤ 70000) :
  Calls Tryz.prog 90 #[.pointer (some ⟨b, 0, none⟩), .int .i64 mi, .slice (some ⟨Lb, 0, none⟩) 1 1] (w.alloc (.cells #[.int .i64 n] 3)) fun e w' => e = .returned (.tuple #[]) ∧ ∃ v', Wr w' b v' (xs ++ encN n m) ∧ Touch (WT b v) w w' ∧ Lies v v' w.heap.size := by
 subst hmi hLb
 refine (numbers_any b m v xs [n] w.heap.size 0 1 _ (h.alloc _) hm (by simp) (by have := h.lt; omega) (fun e => by have := (h.row _ e).2; omega) (fun i hi => ?_) (fun i => ?_) (by simp) hxl).mono ?_
 ·have hi0 : i = 0 := by simpa using hi
  subst hi0
  rw [World.cell?_alloc_at _ _ _ _ rfl]; rfl
 ·cases i with
  | zero => simp; omega
  | succ i => simp
 ·rintro e w' ⟨rfl, v', hW, hT, hL⟩
  refine ⟨rfl, v', by simpa [encAll] using hW, ((Touch.refl (WT b v) w).alloc _).trans hT (fun _ _ h => h), fun k hk => ?_⟩
  rcases hL k hk with e | e
  ·exact .inl e
  ·right; simp at e; omega
theorem numbers_new2 (b m : Nat) (mi : Int) (hmi : mi = (m : Int)) (v : Value) (xs : List Int) (n n2 : Int) (w : World) (h : Wr w b v xs) (Lb : Nat) (hLb : w.heap.size = Lb) (hm : m ≤ 4) (h0 : 0 ≤ n) (h1 : n < 4294967296) (h02 : 0 ≤ n2) (h12 : n2 < 4294967296) (hxl : xs.length ≤ 70000) :
  Calls Tryz.prog 90 #[.pointer (some ⟨b, 0, none⟩), .int .i64 mi, .slice (some ⟨Lb, 0, none⟩) 2 2] (w.alloc (.cells #[.int .i64 n, .int .i64 n2] 3)) fun e w' => e = .returned (.tuple #[]) ∧ ∃ v', Wr w' b v' (xs ++ (encN n m ++ encN n2 m)) ∧ Touch (WT b v) w w' ∧ Lies v v' w.heap.size := by
 subst hmi hLb
 refine (numbers_any b m v xs [n, n2] w.heap.size 0 2 _ (h.alloc _) hm (by simp) (by have := h.lt; omega) (fun e => by have := (h.row _ e).2; omega) (fun i hi => ?_) (fun i => ?_) (by simp) hxl).mono ?_
 ·rcases (show i = 0 ∨ i = 1 by simp at hi; omega) with rfl | rfl
  ·rw [World.cell?_alloc_at _ _ _ _ rfl]; rfl
  ·rw [World.cell?_alloc_at _ _ _ _ rfl]; rfl
 ·cases i with
  | zero => simp; omega
  | succ i => cases i with
   | zero => simp; omega
   | succ i => simp
 ·rintro e w' ⟨rfl, v', hW, hT, hL⟩
  refine ⟨rfl, v', by simpa [encAll] using hW, ((Touch.refl (WT b v) w).alloc _).trans hT (fun _ _ h => h), fun k hk => ?_⟩
  rcases hL k hk with e | e
  ·exact .inl e
  ·right; simp at e; omega

theorem Wr.new (w : World) (b : Nat) (hb : w.heap.size = b) (t : TypeId) : Wr (w.alloc (.cells #[.slice none 0 0] t)) b (.slice none 0 0) [] := by
 subst hb
 refine ⟨by rw [World.cell?_alloc_at _ _ _ _ rfl]; rfl, by simp, by simp, World.ownsRow_nil _ _ _ _, fun i => by simp⟩
theorem texts_any (b : Nat) (v : Value) (xs : List Int) (ss : List ByteArray) (L off cap : Nat) (w : World) (h : Wr w b v xs) (hL : L < w.heap.size) (hLb : L ≠ b) (hLv : v.ownBlock ≠ some L)
  (hc : ∀ i, i < ss.length → w.cell? ⟨L, off + i, none⟩ = some (.string (ss.getD i ByteArray.empty))) (hr : ∀ i, (ss.getD i ByteArray.empty).size ≤ 255) (hlen : sizes ss ≤ 60000) (hxl : xs.length ≤ 10000) (hsl : ss.length ≤ 4096) :
  Calls Tryz.prog 91 #[.pointer (some ⟨b, 0, none⟩), .slice (some ⟨L, off, none⟩) ss.length cap] w fun e w' => e = .returned (.tuple #[]) ∧ ∃ v', Wr w' b v' (xs ++ textsL ss) ∧ Touch (WT b v) w w' ∧ Lies v v' w.heap.size := by
 obtain ⟨i0, hi, hz0, hz1, hz2⟩ := info_parts info5
 have HW := Hd h
 have HC := Hd hc
 have HR := Hd hr
 clear h hc hr
 go_enter Tryz.func91, Tryz.ntmps91
 go_wp2_with fail
 go_loopw [5, 8] (fun _ i wr => ∃ (k : Nat) (u : Value) (ys : List Int), k ≤ ss.length ∧ i = .int .i64 k ∧ Wr wr b u ys ∧ ys ++ textsL (ss.drop k) = xs ++ textsL ss ∧ Touch (WT b v) w wr ∧ Lies v u w.heap.size) (fun _ i _ => ss.length - (intOf i).toNat)
 case atStart => exact ⟨0, v, xs, Nat.zero_le _, rfl, uh HW, rfl, Touch.refl _ _, Lies.refl _ _⟩
 case round =>
  obtain ⟨k, u, ys, hk, rfl, hW, hE, hT, hLi⟩ := hrel
  by_cases hlt : k < ss.length
  ·have hs1 : wr.cell? ⟨L, off + k, none⟩ = some (.string (ss.getD k ByteArray.empty)) := by
    rw [hT.cell (p := ⟨L, off + k, none⟩) hL (fun hx => by rcases hx with h1 | h1; exact hLb h1; exact hLv h1)]
    exact uh HC k hlt
   have hr1 := uh HR k
   have hk0 : (0 : Int) ≤ (k : Int) := by omega
   have hk1 : (k : Int) < (ss.length : Int) := by omega
   have hyl : ys.length ≤ 70000 := by
    have e := congrArg List.length hE
    rw [List.length_append, List.length_append, textsL_len ss] at e
    omega
   have HD := Hd (textsL_drop ss k hlt)
   have HR2 := Hd (And.intro hW (And.intro hE (And.intro hT hLi)))
   have hbl := hW.lt
   clear hW hE hT hLi
   generalize ss.getD k ByteArray.empty = s at *
   go_wp2_with fail
   refine (numbers_new1 b 1 1 rfl u ys s.size wr (uh HR2).1 _ rfl (by omega) (by omega) (by omega) hyl).mono ?_
   rintro e w2 ⟨rfl, v2, hW2, hT2, hL2⟩
   obtain ⟨y2, hy2⟩ : ∃ y2, y2 = ys ++ encN (s.size : Int) 1 := ⟨_, rfl⟩
   rw [← hy2] at hW2
   have hcell := hW2.1
   have hfr := hW2.2.1
   have hb2 := hW2.2.2.1
   have hne : some b ≠ v2.ownBlock := fun e => by have := (hW2.row b e.symm).1; omega
   have HW2 := Hd hW2
   have HN := Hd hne
   have hl2 : y2.length ≤ 70001 := by rw [hy2, List.length_append, encN_len]; omega
   have hl3 : 0 < y2.length := by rw [hy2, List.length_append, encN_len]; omega
   have HT2 := Hd ((uh HR2).2.2.1.wr (uh HR2).2.2.2 hT2)
   have HL2 := Hd ((uh HR2).2.2.2.trans hL2 (uh HR2).2.2.1.size)
   have he : encN (s.size : Int) 1 = [(s.size : Int)] := by simp [encN]; omega
   have HE2 := Hd he
   have HY := Hd hy2
   clear hW2 hT2 hL2 hne he hy2
   go_wp2_with (at_builtin; refine wpList_append_str _ rfl _ _ _ _ rfl (b + 1) 5 i0 Tryz.underlying22 Tryz.underlying9 hi hz0 hz1 hz2 v2 _ _ rfl (uh HW2).2.2.2.1 s rfl (by omega) (by omega) (by omega) ?_; intro gg capg w3 hown3 hgrow hat; have HAT := Hd hat; clear hat; have hc3 : w3.cell? ⟨b, 0, none⟩ = some v2 := (hgrow.cell_far ⟨b, 0, none⟩ hb2 (uh HN)).trans hcell; have hf3 : w3.frozen? ⟨b, 0, none⟩ = false := (hgrow.frozen_far ⟨b, 0, none⟩ hb2 (uh HN)).trans hfr)
   have R := Hd ((uh HW2).appended (ys := bytesI s) (by rw [List.map_append, ← strCells_eq]; exact hown3) hgrow (by
    rcases uh HAT with e | e
    ·left; rw [e]; rfl
    ·right; rw [e]; rfl) (bytesI_range s))
   clear hown3 hgrow HAT hc3 hf3
   go_roundw
   case rel =>
    refine ⟨k + 1, _, _, by omega, by go_num, (uh R).1, ?_, (uh HT2).wr (uh HL2) (uh R).2.1, (uh HL2).trans (uh R).2.2 (uh HT2).size⟩
    rw [← (uh HR2).2.1, uh HD, uh HY, uh HE2]; simp
   case measure => simp [intOf]; omega
  ·obtain rfl : k = ss.length := by omega
   have R := Hd (And.intro hW (And.intro hE (And.intro hT hLi)))
   clear hW hE hT hLi
   go_wp2_with fail
   go_end0
   refine ⟨rfl, u, ?_, (uh R).2.2.1, (uh R).2.2.2⟩
   have e := (uh R).2.1
   rw [List.drop_length] at e
   simp only [textsL, List.append_nil] at e
   rw [← e]; exact (uh R).1
theorem texts_new2 (b : Nat) (v : Value) (xs : List Int) (s s2 : ByteArray) (w : World) (h : Wr w b v xs) (Lb : Nat) (hLb : w.heap.size = Lb) (h1 : s.size ≤ 255) (h2 : s2.size ≤ 255) (hxl : xs.length ≤ 10000) :
  Calls Tryz.prog 91 #[.pointer (some ⟨b, 0, none⟩), .slice (some ⟨Lb, 0, none⟩) 2 2] (w.alloc (.cells #[.string s, .string s2] 9)) fun e w' => e = .returned (.tuple #[]) ∧ ∃ v', Wr w' b v' (xs ++ textsL [s, s2]) ∧ Touch (WT b v) w w' ∧ Lies v v' w.heap.size := by
 subst hLb
 refine (texts_any b v xs [s, s2] w.heap.size 0 2 _ (h.alloc _) (by simp) (by have := h.lt; omega) (fun e => by have := (h.row _ e).2; omega) (fun i hi => ?_) (fun i => ?_) (by simp [sizes]; omega) hxl (by simp)).mono ?_
 ·rcases (show i = 0 ∨ i = 1 by simp at hi; omega) with rfl | rfl
  ·rw [World.cell?_alloc_at _ _ _ _ rfl]; rfl
  ·rw [World.cell?_alloc_at _ _ _ _ rfl]; rfl
 ·cases i with
  | zero => simpa using h1
  | succ i => cases i with
   | zero => simpa using h2
   | succ i => simp
 ·rintro e w' ⟨rfl, v', hW, hT, hL⟩
  refine ⟨rfl, v', hW, ((Touch.refl (WT b v) w).alloc _).trans hT (fun _ _ h => h), fun k hk => ?_⟩
  rcases hL k hk with e | e
  ·exact .inl e
  ·right; simp at e; omega
def cmdBytes (k s q : Int) (key val : ByteArray) : List Int := encN k 1 ++ (encN s 2 ++ encN q 2) ++ textsL [key, val]
theorem cmdOK_bounds {k s q : Int} {key val : ByteArray} (h : cmdOK k s q key val = true) : 1 ≤ k ∧ k ≤ 5 ∧ 0 ≤ s ∧ s ≤ 65535 ∧ 0 ≤ q ∧ q ≤ 65535 ∧ key.size ≤ 24 ∧ val.size ≤ 60 := by
 unfold cmdOK at h
 split at h
 ·rename_i h1
  simp only [Bool.and_eq_true, decide_eq_true_eq, inB_iff] at h1
  have hk : 1 ≤ k ∧ k ≤ 5 ∧ key.size ≤ 24 := by
   split at h
   ·rw [inB_iff] at h; omega
   ·split at h
    ·simp only [Bool.and_eq_true, inB_iff] at h; omega
    ·split at h
     ·simp only [Bool.and_eq_true, emptyB_iff] at h; omega
     ·cases h
  omega
 ·cases h
def cmdOut (k s q : Int) (key val : ByteArray) : List Int × Int := if cmdOK k s q key val then (cmdBytes k s q key val, 0) else ([], 1)

theorem implCommandBytes_any (k s q : Int) (key val : ByteArray) (w : World) (hk : key.size ≤ maxLen) (hv : val.size ≤ maxLen) :
  Calls Tryz.prog 76 #[.agg #[.int .i64 k, .int .i64 s, .int .i64 q, .string key, .string val]] w fun e w' => ∃ v', e = .returned (.tuple #[v', .int .i64 (cmdOut k s q key val).2]) ∧ OwnB w.heap.size w' v' (cmdOut k s q key val).1 ∧ Below w.heap.size w w' := by
 rcases Bool.eq_false_or_eq_true (cmdOK k s q key val) with h1 | h1
 case inr =>
  have E := Hd (show cmdOut k s q key val = ([], 1) by simp [cmdOut, h1])
  go_enter Tryz.func76, Tryz.ntmps76
  go_wp2_with fail
  refine (implCommandOK_any k s q key val _ hk hv).mono ?_
  rintro e w1 ⟨rfl, hb1⟩
  have HB := Hd ((bal w (.cells #[.int .i64 k, .int .i64 s, .int .i64 q, .string key, .string val] 31)).trans (hb1.mono (by simp)))
  clear hb1
  go_wp2_with fail
  go_ret2
  exact ⟨.slice none 0 0, ret_two (by rw [uh E]), by rw [uh E]; exact OwnB.nil _ _, uh HB⟩
 case inl =>
  have E := Hd (show cmdOut k s q key val = (cmdBytes k s q key val, 0) by simp [cmdOut, h1])
  obtain ⟨b1, b2, b3, b4, b5, b6, b7, b8⟩ := cmdOK_bounds h1
  go_enter Tryz.func76, Tryz.ntmps76
  go_wp2_with fail
  refine (implCommandOK_any k s q key val _ hk hv).mono ?_
  rintro e w1 ⟨rfl, hb1⟩
  have hb1' : Below (w.heap.size + 1) (w.alloc (.cells #[.int .i64 k, .int .i64 s, .int .i64 q, .string key, .string val] 31)) w1 := hb1.mono (by simp)
  have HB1 := Hd hb1'
  obtain ⟨c0, c1, c2, c3, c4⟩ := five_cell rfl hb1'
  have hsz : w.heap.size < w1.heap.size := by have := hb1'.size; simp at this; omega
  clear hb1 hb1'
  go_wp2_with fail
  have W0 := Hd (Wr.new w1 w1.heap.size rfl 137)
  have HS0 : Hid ((w1.alloc (.cells #[.slice none 0 0] 137)).heap.size = w1.heap.size + 1) := Hd (by simp)
  have HB0 := Hd ((uh HB1).alloc (by omega) (.cells #[.slice none 0 0] 137))
  generalize w1.alloc (.cells #[.slice none 0 0] 137) = w2 at *
  refine (numbers_new1 w1.heap.size 1 1 rfl _ [] k w2 (uh W0) _ (uh HS0) (by omega) (by omega) (by omega) (by simp)).mono ?_
  rintro e w3 ⟨rfl, v3, hW3, hT3, hL3⟩
  have HB3 := Hd ((uh HB0).trans ((uh W0).below hT3 hsz))
  have W3 := Hd hW3
  obtain ⟨c0, c1, c2, c3, c4⟩ := five_cell rfl (uh HB3)
  clear hW3 hT3 hL3
  go_wp2_with fail
  refine (numbers_new2 w1.heap.size 2 2 rfl v3 _ s q w3 (uh W3) _ rfl (by omega) (by omega) (by omega) (by omega) (by omega) (by simp [encN])).mono ?_
  rintro e w4 ⟨rfl, v4, hW4, hT4, hL4⟩
  have HB4 := Hd ((uh HB3).trans ((uh W3).below hT4 hsz))
  have W4 := Hd hW4
  obtain ⟨c0, c1, c2, c3, c4⟩ := five_cell rfl (uh HB4)
  clear hW4 hT4 hL4
  go_wp2_with fail
  refine (texts_new2 w1.heap.size v4 _ key val w4 (uh W4) _ rfl (by omega) (by omega) (by simp [encN])).mono ?_
  rintro e w5 ⟨rfl, v5, hW5, hT5, hL5⟩
  have HB5 := Hd ((uh HB4).trans ((uh W4).below hT5 hsz))
  have W5 := Hd hW5
  have hcell := hW5.1
  clear hW5 hT5 hL5
  go_wp2_with fail
  go_ret2
  refine ⟨v5, ret_two (by rw [uh E]), ?_, ((Below.refl w.heap.size w).alloc (Nat.le_refl _) _).trans ((uh HB5).mono (by omega))⟩
  rw [uh E]
  exact OwnB.mono (B := w1.heap.size + 1) ⟨by have h := (uh W5).2.2.2.1; simpa [cmdBytes] using h, by have h := (uh W5).2.2.2.2; simpa [cmdBytes] using h⟩ (by omega)
end Go.Proofs.YtlbcdngidfjogaaGreatDoor
namespace Go.Proofs.YtlbcdngidfjogaaGreatDoor.Sha
set_option maxRecDepth 100000
set_option maxHeartbeats 8000000
open Go.ChangeShapes Go.WideShapes Go.ChangeAt Go.RowKit Go.Deep
set_option linter.unusedVariables false
set_option linter.unusedSimpArgs false
def dropO (h : ByteArray) : Option Tr → Option Tr
 | none => none
 | some t => dropT h t
def leafC (c : Cm) : ByteArray := leafV (strOfNums (cmdBytes c.kd c.ss c.sq c.ky c.vl))
theorem leafC_size {c : Cm} (hk : c.ky.size ≤ 24) (hv : c.vl.size ≤ 60) : (leafC c).size = 32 := by
 obtain ⟨ckd, css, csq, cky, cvl⟩ := c
 dsimp only at hk hv
 have e : (strOfNums (cmdBytes ckd css csq cky cvl)).size ≤ 100 := by
  have e1 : cky.data.size = cky.size := rfl
  have e2 : cvl.data.size = cvl.size := rfl
  simp only [strOfNums, ByteArray.size, cmdBytes, List.length_append, encN_len, textsL_len, sizes, List.size_toArray, List.length_map]
  omega
 exact hash_size (by simp [bytesI_len]; omega)
def cmK (c : Cm) : Bool := cmdOK c.kd c.ss c.sq c.ky c.vl
def chOut (ls : List ByteArray) (o : Option Tr) (c : Cm) (g : Option ByteArray) : List ByteArray × Option Tr × Re :=
 if c.kd = 3 ∧ g = none then (ls, o, ⟨2, 0, ⟨#[]⟩⟩)
 else if 0 < exV ls.length (lvO o) g.isSome (vbV c.kd c.vl (g.getD ⟨#[]⟩)).size then (ls, o, ⟨6, 0, ⟨#[]⟩⟩)
 else (ls ++ [leafC c], if c.kd = 3 then dropO (kh c.ky) o else some (putO o c.ky (vbV c.kd c.vl (g.getD ⟨#[]⟩))), ⟨1, (ls.length : Int) + 1, vbV c.kd c.vl (g.getD ⟨#[]⟩)⟩)
structure Lst where
 ls : List ByteArray
 o : Option Tr
 ss : List Se
def svOut (x : Lst) (c : Cm) (q : Nat) : Lst × Re :=
 if c.sq = (x.ss.getD q default).sq ∧ (x.ss.getD q default).kd ≠ 0 then (x, ⟨(x.ss.getD q default).kd, (x.ss.getD q default).pl, (x.ss.getD q default).vl⟩)
 else if c.sq ≤ (x.ss.getD q default).sq then (x, ⟨3, 0, ⟨#[]⟩⟩)
 else (⟨(chOut x.ls x.o c (getV x.o c.ky)).1, (chOut x.ls x.o c (getV x.o c.ky)).2.1, x.ss.set q ⟨(x.ss.getD q default).id, c.sq, (chOut x.ls x.o c (getV x.o c.ky)).2.2.kd, (chOut x.ls x.o c (getV x.o c.ky)).2.2.pl, (chOut x.ls x.o c (getV x.o c.ky)).2.2.vl⟩⟩, (chOut x.ls x.o c (getV x.o c.ky)).2.2)
def apOut (x : Lst) (c : Cm) : Lst × Re :=
 if c.kd = 4 then (if hasS x.ss c.ss then (x, ⟨5, 0, ⟨#[]⟩⟩) else if x.ss.length = 8 then (x, ⟨6, 0, ⟨#[]⟩⟩) else (⟨x.ls, x.o, insS x.ss (posS x.ss c.ss) (newS c.ss)⟩, ⟨1, 0, ⟨#[]⟩⟩))
 else if hasS x.ss c.ss = false then (x, ⟨4, 0, ⟨#[]⟩⟩)
 else if c.kd = 5 then (⟨x.ls, x.o, delS x.ss (posS x.ss c.ss)⟩, ⟨1, 0, ⟨#[]⟩⟩)
 else svOut x c (posS x.ss c.ss)
structure LOK (x : Lst) : Prop where
 n : x.ls.length ≤ 50
 h : ∀ s ∈ x.ls, s.size = 32
 ok : OkO x.o
 ri : RiseO x.o
 sp : SepO x.o
 m : x.ss.length ≤ 8
 rs : RiseS x.ss
 sb : ∀ s ∈ x.ss, (0 ≤ s.id ∧ s.id ≤ 65535) ∧ (0 ≤ s.sq ∧ s.sq ≤ 65535) ∧ (0 ≤ s.kd ∧ s.kd ≤ 6) ∧ (0 ≤ s.pl ∧ s.pl ≤ 50) ∧ s.vl.size ≤ 60
theorem LOK.keys {x : Lst} (h : LOK x) : lvO x.o ≤ 40 := by
 have := h.sp
 cases ho : x.o with
 | none => simp [lvO]
 | some t => rw [ho] at this; exact this.2
theorem dropT_lvN (h : ByteArray) : ∀ t : Tr, lvO (dropT h t) ≤ t.lvN
 | .leaf _ _ => Nat.zero_le _
 | .fork a hh l r => by
  have h1 := dropT_lvN h l
  have h2 := dropT_lvN h r
  unfold dropT
  show _ ≤ l.lvN + r.lvN
  split
  ·cases hd : dropT h l with
   | none => show r.lvN ≤ _; omega
   | some l' => rw [hd] at h1; show l'.lvN + r.lvN ≤ _; have : l'.lvN ≤ l.lvN := h1; omega
  ·cases hd : dropT h r with
   | none => show l.lvN ≤ _; omega
   | some r' => rw [hd] at h2; show l.lvN + r'.lvN ≤ _; have : r'.lvN ≤ r.lvN := h2; omega
theorem getV_size {o : Option Tr} (h : OkO o) {key x : ByteArray} (hg : getV o key = some x) : x.size ≤ 60 := by
 cases o with
 | none => cases hg
 | some t =>
  unfold getV at hg
  dsimp only at hg
  split at hg
  ·cases hg
   exact (lead_ok _ t h).2
  ·cases hg
theorem cmK_key {c : Cm} (h : cmK c = true) (hk : c.kd ≠ 4) (hk5 : c.kd ≠ 5) : okK c.ky = true ∧ c.vl.size ≤ 60 ∧ (0 ≤ c.sq ∧ c.sq ≤ 65535) ∧ (c.kd = 1 ∨ c.kd = 2 ∨ c.kd = 3) ∧ (c.kd = 3 → c.vl.size = 0) := by
 unfold cmK cmdOK at h
 split at h
 ·rename_i h1
  simp only [Bool.and_eq_true, decide_eq_true_eq] at h1
  split at h
  ·rename_i h2
   refine ⟨okK_iff.2 ?_, h1.2, inB_iff.1 h1.1.2, by omega, fun e => by omega⟩
   have := inB_iff.1 h; omega
  ·split at h
   ·rename_i h3
    simp only [Bool.and_eq_true] at h
    refine ⟨okK_iff.2 ?_, h1.2, inB_iff.1 h1.1.2, .inr (.inr h3), fun _ => ?_⟩
    ·have := inB_iff.1 h.1; omega
    ·exact emptyB_iff.1 h.2
   ·rw [if_neg (by omega)] at h; cases h
 ·cases h
theorem cmK_ses {c : Cm} (h : cmK c = true) : 0 ≤ c.ss ∧ c.ss ≤ 65535 := by
 unfold cmK cmdOK at h
 split at h
 ·rename_i h1
  simp only [Bool.and_eq_true] at h1
  exact inB_iff.1 h1.1.1
 ·cases h
def ReOK (r : Re) : Prop := (0 ≤ r.kd ∧ r.kd ≤ 6) ∧ (0 ≤ r.pl ∧ r.pl ≤ 50) ∧ r.vl.size ≤ 60
theorem reOK_of (k : Int) (h0 : 0 ≤ k) (h1 : k ≤ 6) : ReOK ⟨k, 0, ⟨#[]⟩⟩ := ⟨⟨h0, h1⟩, ⟨by show (0 : Int) ≤ 0; omega, by show (0 : Int) ≤ 50; omega⟩, by show (⟨#[]⟩ : ByteArray).size ≤ 60; decide⟩
theorem fd_self {x : ByteArray} (h : x.size = 32) : ¬ fd x x < 256 := fun e => ((fd_ne h h).1 e) rfl
theorem exV_le {n k z : Nat} {t : Bool} (h : ¬ 0 < exV n k t z) : n ≤ 49 ∧ z ≤ 60 ∧ (t = false → k ≤ 39) := by
 unfold exV at h
 cases t with
 | true => rw [if_pos rfl] at h; refine ⟨by omega, by omega, fun e => by cases e⟩
 | false => rw [if_neg (by simp)] at h; refine ⟨by omega, by omega, fun _ => by omega⟩
theorem put_lvN {o : Option Tr} {key val : ByteArray} (ho : OkO o) (hs : SepO o) (hk : okK key = true) (h : getV o key = none → lvO o ≤ 39) : (putO o key val).lvN ≤ 40 := by
 have hks := okK_iff.1 hk
 cases o with
 | none => show 1 ≤ 40; omega
 | some t =>
  have h2 := putT_lvN (kh key) (putAt t key) key val (fd_le _ _) t ho
  have h3 := hs.2
  show (putT (kh key) (putAt t key) key val t).lvN ≤ 40
  rw [h2]
  split
  ·rename_i hlt
   have : getV (some t) key = none := by
    unfold getV
    dsimp only
    rw [if_neg (fun e => ?_)]
    unfold putAt at hlt
    rw [e] at hlt
    exact fd_self (kh_size (by omega)) hlt
   have := h this
   have e : lvO (some t) = t.lvN := rfl
   omega
  ·omega
theorem ch_ok {x : Lst} (h : LOK x) {c : Cm} (hc : cmK c = true) (h4 : c.kd ≠ 4) (h5 : c.kd ≠ 5) : LOK ⟨(chOut x.ls x.o c (getV x.o c.ky)).1, (chOut x.ls x.o c (getV x.o c.ky)).2.1, x.ss⟩ ∧ ReOK (chOut x.ls x.o c (getV x.o c.ky)).2.2 := by
 obtain ⟨k1, k2, k3, k4, k5⟩ := cmK_key hc h4 h5
 have hks := okK_iff.1 k1
 unfold chOut
 split
 ·exact ⟨⟨h.n, h.h, h.ok, h.ri, h.sp, h.m, h.rs, h.sb⟩, reOK_of 2 (by omega) (by omega)⟩
 ·split
  ·exact ⟨⟨h.n, h.h, h.ok, h.ri, h.sp, h.m, h.rs, h.sb⟩, reOK_of 6 (by omega) (by omega)⟩
  ·rename_i h1 h2
   obtain ⟨e1, e2, e3⟩ := exV_le h2
   have hv : TrOK (.leaf c.ky (vbV c.kd c.vl ((getV x.o c.ky).getD ⟨#[]⟩))) := ⟨k1, e2⟩
   have hls : ∀ s ∈ x.ls ++ [leafC c], s.size = 32 := fun s hs => by
    rcases List.mem_append.1 hs with hs | hs
    ·exact h.h s hs
    ·rw [List.mem_singleton.1 hs]; exact leafC_size hks.2 k2
   have hn : (x.ls ++ [leafC c]).length ≤ 50 := by simp; omega
   have hr : ReOK ⟨1, (x.ls.length : Int) + 1, vbV c.kd c.vl ((getV x.o c.ky).getD ⟨#[]⟩)⟩ := ⟨⟨by show (0 : Int) ≤ 1; omega, by show (1 : Int) ≤ 6; omega⟩, ⟨by show (0 : Int) ≤ (x.ls.length : Int) + 1; omega, by show (x.ls.length : Int) + 1 ≤ 50; omega⟩, e2⟩
   refine ⟨?_, hr⟩
   dsimp only
   split
   ·have hd : OkO (dropO (kh c.ky) x.o) ∧ RiseO (dropO (kh c.ky) x.o) ∧ SepO (dropO (kh c.ky) x.o) := by
     have o1 := h.ok; have o2 := h.ri; have o3 := h.sp
     cases hx : x.o with
     | none => exact ⟨trivial, trivial, trivial⟩
     | some t =>
      rw [hx] at o1 o2 o3
      have f1 := dropT_ok (kh c.ky) t o1
      have f2 := dropT_facts (kh c.ky) t 0 o2 o3.1
      have f3 := dropT_lvN (kh c.ky) t
      have f4 := o3.2
      show OkO (dropT (kh c.ky) t) ∧ RiseO (dropT (kh c.ky) t) ∧ SepO (dropT (kh c.ky) t)
      cases hd : dropT (kh c.ky) t with
      | none => exact ⟨trivial, trivial, trivial⟩
      | some t' =>
       rw [hd] at f1 f2 f3
       exact ⟨f1, f2.1, f2.2.1, Nat.le_trans f3 f4⟩
    exact ⟨hn, hls, hd.1, hd.2.1, hd.2.2, h.m, h.rs, h.sb⟩
   ·have f1 := putO_rise c.ky (vbV c.kd c.vl ((getV x.o c.ky).getD ⟨#[]⟩)) h.ri h.sp
    exact ⟨hn, hls, mpT_ok h.ok hv, f1.1, ⟨f1.2, put_lvN h.ok h.sp k1 (fun e => e3 (by rw [e]; rfl))⟩, h.m, h.rs, h.sb⟩
theorem ap_ok {x : Lst} (h : LOK x) {c : Cm} (hc : cmK c = true) : LOK (apOut x c).1 ∧ ReOK (apOut x c).2 := by
 have hses := cmK_ses hc
 unfold apOut
 split
 ·split
  ·exact ⟨h, reOK_of 5 (by omega) (by omega)⟩
  ·split
   ·exact ⟨h, reOK_of 6 (by omega) (by omega)⟩
   ·rename_i h1 h2 h3
    have hp := pos_is (id := c.ss) h.rs
    refine ⟨⟨h.n, h.h, h.ok, h.ri, h.sp, ?_, ins_rise h.rs (by simpa using h2), ?_⟩, reOK_of 1 (by omega) (by omega)⟩
    ·show (insS _ _ _).length ≤ 8
     rw [insS_len _ _ _ hp.le]; have := h.m; omega
    ·intro s hs
     show (0 ≤ s.id ∧ s.id ≤ 65535) ∧ _
     rcases List.mem_append.1 hs with hs | hs
     ·exact h.sb s (List.mem_of_mem_take hs)
     ·rcases List.mem_cons.1 hs with rfl | hs
      ·exact ⟨hses, ⟨by show (0:Int) ≤ 0; omega, by show (0:Int) ≤ 65535; omega⟩, ⟨by show (0:Int) ≤ 0; omega, by show (0:Int) ≤ 6; omega⟩, ⟨by show (0:Int) ≤ 0; omega, by show (0:Int) ≤ 50; omega⟩, by show (⟨#[]⟩ : ByteArray).size ≤ 60; decide⟩
      ·exact h.sb s (List.mem_of_mem_drop hs)
 ·split
  ·exact ⟨h, reOK_of 4 (by omega) (by omega)⟩
  ·rename_i h1 h2
   have hh : hasS x.ss c.ss = true := by simpa using h2
   obtain ⟨p1, p2⟩ := has_iff.1 hh
   split
   ·refine ⟨⟨h.n, h.h, h.ok, h.ri, h.sp, ?_, del_rise h.rs p1, ?_⟩, reOK_of 1 (by omega) (by omega)⟩
    ·show (delS _ _).length ≤ 8
     rw [delS_len _ _ p1]; have := h.m; omega
    ·intro s hs
     rcases List.mem_append.1 hs with hs | hs
     ·exact h.sb s (List.mem_of_mem_take hs)
     ·exact h.sb s (List.mem_of_mem_drop hs)
   ·rename_i h5
    obtain ⟨k1, k2, k3, k4, k5⟩ := cmK_key hc h1 h5
    obtain ⟨s1, s2, s3, s4, s5⟩ := h.sb _ (getD_mem p1)
    unfold svOut
    split
    ·exact ⟨h, s3, s4, s5⟩
    ·split
     ·exact ⟨h, reOK_of 3 (by omega) (by omega)⟩
     ·obtain ⟨g, gr⟩ := ch_ok h hc h1 h5
      refine ⟨⟨g.n, g.h, g.ok, g.ri, g.sp, by simp; exact h.m, set_rise h.rs p1 rfl, ?_⟩, gr⟩
      intro s hs
      rcases List.mem_or_eq_of_mem_set hs with hs | rfl
      ·exact h.sb s hs
      ·exact ⟨s1, k3, gr.1, gr.2.1, gr.2.2⟩
end Go.Proofs.YtlbcdngidfjogaaGreatDoor.Sha
namespace Go.Proofs.YtlbcdngidfjogaaGreatDoor
set_option maxRecDepth 100000
set_option maxHeartbeats 8000000
open Go.ChangeShapes Go.WideShapes Go.ChangeAt Go.RowKit
set_option linter.unusedVariables false
abbrev set6 (w : World) (b : Nat) (x0 x1 x2 x3 x4 x5 : Value) : World := (((((w.setCell ⟨b, 0, none⟩ x0).setCell ⟨b, 1, none⟩ x1).setCell ⟨b, 2, none⟩ x2).setCell ⟨b, 3, none⟩ x3).setCell ⟨b, 4, none⟩ x4).setCell ⟨b, 5, none⟩ x5
abbrev set3 (w : World) (b : Nat) (x0 x1 x2 : Value) : World := ((w.setCell ⟨b, 0, none⟩ x0).setCell ⟨b, 1, none⟩ x1).setCell ⟨b, 2, none⟩ x2
theorem Blk.c6 {w : World} {b : Nat} {a0 a1 a2 a3 a4 a5 : Value} (h : Blk w b [a0, a1, a2, a3, a4, a5]) : (w.cell? ⟨b, 0, none⟩ = some a0 ∧ w.cell? ⟨b, 1, none⟩ = some a1 ∧ w.cell? ⟨b, 2, none⟩ = some a2 ∧ w.cell? ⟨b, 3, none⟩ = some a3 ∧ w.cell? ⟨b, 4, none⟩ = some a4 ∧ w.cell? ⟨b, 5, none⟩ = some a5) ∧ (w.frozen? ⟨b, 0, none⟩ = false ∧ w.frozen? ⟨b, 1, none⟩ = false ∧ w.frozen? ⟨b, 2, none⟩ = false ∧ w.frozen? ⟨b, 3, none⟩ = false ∧ w.frozen? ⟨b, 4, none⟩ = false ∧ w.frozen? ⟨b, 5, none⟩ = false) :=
 ⟨⟨h.cell 0 rfl, h.cell 1 rfl, h.cell 2 rfl, h.cell 3 rfl, h.cell 4 rfl, h.cell 5 rfl⟩, h.fro 0, h.fro 1, h.fro 2, h.fro 3, h.fro 4, h.fro 5⟩
theorem Blk.c5 {w : World} {b : Nat} {a0 a1 a2 a3 a4 : Value} (h : Blk w b [a0, a1, a2, a3, a4]) : w.cell? ⟨b, 0, none⟩ = some a0 ∧ w.cell? ⟨b, 1, none⟩ = some a1 ∧ w.cell? ⟨b, 2, none⟩ = some a2 ∧ w.cell? ⟨b, 3, none⟩ = some a3 ∧ w.cell? ⟨b, 4, none⟩ = some a4 :=
 ⟨h.cell 0 rfl, h.cell 1 rfl, h.cell 2 rfl, h.cell 3 rfl, h.cell 4 rfl⟩
theorem Blk.c3 {w : World} {b : Nat} {a0 a1 a2 : Value} (h : Blk w b [a0, a1, a2]) : (w.cell? ⟨b, 0, none⟩ = some a0 ∧ w.cell? ⟨b, 1, none⟩ = some a1 ∧ w.cell? ⟨b, 2, none⟩ = some a2) ∧ (w.frozen? ⟨b, 0, none⟩ = false ∧ w.frozen? ⟨b, 1, none⟩ = false ∧ w.frozen? ⟨b, 2, none⟩ = false) :=
 ⟨⟨h.cell 0 rfl, h.cell 1 rfl, h.cell 2 rfl⟩, h.fro 0, h.fro 1, h.fro 2⟩
theorem st6 {w : World} {b : Nat} {a0 a1 a2 a3 a4 a5 : Value} (h : Blk w b [a0, a1, a2, a3, a4, a5]) (x0 x1 x2 x3 x4 x5 : Value) : Blk (set6 w b x0 x1 x2 x3 x4 x5) b [x0, x1, x2, x3, x4, x5] :=
 (((((h.set 0 x0 (by simp)).set 1 x1 (by simp)).set 2 x2 (by simp)).set 3 x3 (by simp)).set 4 x4 (by simp)).set 5 x5 (by simp)
theorem st3 {w : World} {b : Nat} {a0 a1 a2 : Value} (h : Blk w b [a0, a1, a2]) (x0 x1 x2 : Value) : Blk (set3 w b x0 x1 x2) b [x0, x1, x2] :=
 ((h.set 0 x0 (by simp)).set 1 x1 (by simp)).set 2 x2 (by simp)
theorem tc6 {T : Nat → Prop} {w0 w : World} (h : Touch T w0 w) (b : Nat) (hb : T b) (x0 x1 x2 x3 x4 x5 : Value) : Touch T w0 (set6 w b x0 x1 x2 x3 x4 x5) :=
 (((((h.setCell ⟨b, 0, none⟩ x0 (fun _ => hb)).setCell ⟨b, 1, none⟩ x1 (fun _ => hb)).setCell ⟨b, 2, none⟩ x2 (fun _ => hb)).setCell ⟨b, 3, none⟩ x3 (fun _ => hb)).setCell ⟨b, 4, none⟩ x4 (fun _ => hb)).setCell ⟨b, 5, none⟩ x5 (fun _ => hb)
theorem tc3 {T : Nat → Prop} {w0 w : World} (h : Touch T w0 w) (b : Nat) (hb : T b) (x0 x1 x2 : Value) : Touch T w0 (set3 w b x0 x1 x2) :=
 ((h.setCell ⟨b, 0, none⟩ x0 (fun _ => hb)).setCell ⟨b, 1, none⟩ x1 (fun _ => hb)).setCell ⟨b, 2, none⟩ x2 (fun _ => hb)
theorem end63 {w : World} {ob rb : Nat} {a0 a1 a2 a3 a4 a5 b0 b1 b2 : Value} (hO : Blk w ob [a0, a1, a2, a3, a4, a5]) (hR : Blk w rb [b0, b1, b2]) (hne : ob ≠ rb) (x0 x1 x2 x3 x4 x5 y0 y1 y2 : Value) :
  Hid (Blk (set3 (set6 w ob x0 x1 x2 x3 x4 x5) rb y0 y1 y2) ob [x0, x1, x2, x3, x4, x5]) ∧ Hid (Blk (set3 (set6 w ob x0 x1 x2 x3 x4 x5) rb y0 y1 y2) rb [y0, y1, y2]) ∧ Hid (Touch (fun k => k = ob ∨ k = rb) w (set3 (set6 w ob x0 x1 x2 x3 x4 x5) rb y0 y1 y2)) :=
 ⟨Hd ((st6 hO x0 x1 x2 x3 x4 x5).kept (tc3 (Touch.refl (fun q => q = rb) _) rb rfl y0 y1 y2) (fun e => hne e)), Hd (st3 (hR.kept (tc6 (Touch.refl (fun q => q = ob) w) ob rfl x0 x1 x2 x3 x4 x5) (fun e => hne e.symm)) y0 y1 y2), Hd (tc3 (tc6 (Touch.refl (fun k => k = ob ∨ k = rb) w) ob (.inl rfl) x0 x1 x2 x3 x4 x5) rb (.inr rfl) y0 y1 y2)⟩
theorem sesC_one (l : List Se) : ∀ u ∈ sesC l, u.oneCell' = true := by
 intro u hu
 simp only [sesC, List.mem_flatMap] at hu
 obtain ⟨f, _, hf⟩ := hu
 simp only [seC, List.mem_cons, List.not_mem_nil, or_false] at hf
 rcases hf with rfl | rfl | rfl | rfl | rfl <;> rfl
theorem Sess.rw {w : World} {v : Value} {l : List Se} (h : Sess w v l) : Rw w v l.length (sesC l) := by
 obtain ⟨a, cap, rfl, hn, hm, hc⟩ := h
 refine ⟨a, cap, rfl, ?_⟩
 rcases hc with h0 | ⟨b, off, rfl, hlt, hc⟩
 ·exact .inl h0
 refine .inr ⟨_, rfl, fun j u hu => ?_⟩
 have hadd : (⟨b, off, none⟩ : Addr).add j = ⟨b, off + j, none⟩ := by unfold Addr.add; split <;> simp_all
 have hj : j < l.length * 5 := by
  have := (List.getElem?_eq_some_iff.1 hu).1
  rwa [sesC_len] at this
 obtain ⟨g0, g1, g2, g3, g4⟩ := sesC_get l (j / 5) (by omega)
 obtain ⟨c0, c1, c2, c3, c4⟩ := hc (j / 5) (by omega)
 rw [hadd]
 rcases (show j % 5 = 0 ∨ j % 5 = 1 ∨ j % 5 = 2 ∨ j % 5 = 3 ∨ j % 5 = 4 by omega) with e | e | e | e | e
 ·rw [show j / 5 * 5 = j by omega] at g0 c0
  rw [c0, ← g0, hu]
 ·rw [show j / 5 * 5 + 1 = j by omega] at g1
  rw [show off + j / 5 * 5 + 1 = off + j by omega] at c1
  rw [c1, ← g1, hu]
 ·rw [show j / 5 * 5 + 2 = j by omega] at g2
  rw [show off + j / 5 * 5 + 2 = off + j by omega] at c2
  rw [c2, ← g2, hu]
 ·rw [show j / 5 * 5 + 3 = j by omega] at g3
  rw [show off + j / 5 * 5 + 3 = off + j by omega] at c3
  rw [c3, ← g3, hu]
 ·rw [show j / 5 * 5 + 4 = j by omega] at g4
  rw [show off + j / 5 * 5 + 4 = off + j by omega] at c4
  rw [c4, ← g4, hu]
end Go.Proofs.YtlbcdngidfjogaaGreatDoor
namespace Go.Proofs.YtlbcdngidfjogaaGreatDoor.Sha
set_option maxRecDepth 100000
set_option maxHeartbeats 8000000
open Go.ChangeShapes Go.WideShapes Go.ChangeAt Go.RowKit
set_option linter.unusedVariables false
set_option linter.unusedSimpArgs false
def Bk (B : Nat) (w : World) (p : Nat) (lv : Value) (tp : Option Addr) (sv : Value) (S : Nat → Prop) (ls : List ByteArray) (o : Option Tr) (ss : List Se) : Prop :=
 Blk w p [lv, .pointer tp, sv] ∧ B ≤ p ∧ OwnS B w lv ls ∧ OwnSe B w sv ss ∧ PtrM w S tp o ∧ (∀ x, S x → B ≤ x ∧ x < w.heap.size ∧ x ≠ p ∧ lv.ownBlock ≠ some x ∧ sv.ownBlock ≠ some x) ∧ lv.ownBlock ≠ some p ∧ sv.ownBlock ≠ some p ∧ (∀ x, lv.ownBlock = some x → sv.ownBlock ≠ some x)
theorem Bk.below {B : Nat} {w w' : World} {p : Nat} {lv : Value} {tp : Option Addr} {sv : Value} {S : Nat → Prop} {ls : List ByteArray} {o : Option Tr} {ss : List Se} (h : Bk B w p lv tp sv S ls o ss) (hb : Below w.heap.size w w') : Bk B w' p lv tp sv S ls o ss := by
 obtain ⟨h1, h2, h3, h4, h5, h6, h7⟩ := h
 exact ⟨h1.below hb, h2, h3.below hb, h4.below hb, h5.blw hb, fun x hx => ⟨(h6 x hx).1, Nat.lt_of_lt_of_le (h6 x hx).2.1 hb.size, (h6 x hx).2.2⟩, h7⟩
end Go.Proofs.YtlbcdngidfjogaaGreatDoor.Sha
namespace Go.Proofs.YtlbcdngidfjogaaGreatDoor
set_option maxRecDepth 100000
set_option maxHeartbeats 8000000
open Go.ChangeShapes Go.WideShapes Go.ChangeAt Go.RowKit
set_option linter.unusedVariables false
theorem tkH {P : Program} {md : Region.Mode} {ops : Array Oper} {Q : Exit → Act → World → Prop} {S : World → Prop} (i : Nat) {oi : Oper} {v : Value} {fuel : Nat} {listed : Array Bool} {a a' : Act} {w : World} (hi : ops[i]? = some oi)
  (h : wpAnyH P md ops Q S fuel (listed.setIfInBounds i true) a' w)
  (hs : Region.noSelect ops = true := by kernel_rfl) (hf : Region.free md ops listed i = true := by kernel_rfl) (hr : (Region.ready md ops listed).contains i = true := by kernel_rfl)
  (hQ : ∀ c a w, Q (.panic c) (a.put oi.dst v) w → Q (.panic c) a w := by exact fun _ _ _ h => h) (hy : YieldsIf P ops S oi v a := by (refine Or.inl ⟨by rfl, ?_⟩; intro wq hSw; (try dsimp only at hSw); (try simp only [List.getElem_toArray, List.getElem_cons_succ, List.getElem_cons_zero]); go_simp; try with_reducible rfl)) (hS : S w := by assumption)
  (ha : a.put oi.dst v = a' := by ((try simp only [Act.put, List.getElem_toArray, List.getElem_cons_succ, List.getElem_cons_zero, List.setIfInBounds_toArray, List.set_cons_zero, List.set_cons_succ]); try rfl)) : wpAnyH P md ops Q S (fuel + 1) listed a w := by
 subst ha
 exact wpAnyH_take hi hs hf hr hQ hy hS h
theorem outH {P : Program} {md : Region.Mode} {ops : Array Oper} {Q : Exit → Act → World → Prop} {S : World → Prop} {fuel : Nat} {L : Array Bool} {K : Act → World → Prop} {a a' : Act} {w : World} (hK : Shut (∀ a w, S w → (S w → wpAnyH P md ops Q S fuel L a w) → K a w)) (hS : S w) (h : S w → wpAnyH P md ops Q S fuel L a' w)
  (ha : a = a' := by ((try simp only [Act.put, List.getElem_toArray, List.getElem_cons_succ, List.getElem_cons_zero, List.setIfInBounds_toArray, List.set_cons_zero, List.set_cons_succ]); try rfl)) : K a w := by
 subst ha
 exact hK.out _ _ hS h
theorem rdy1 {P : Program} {md : Region.Mode} {ops : Array Oper} {Q : Exit → Act → World → Prop} {S : World → Prop} {fuel : Nat} {L : Array Bool} {a : Act} {w : World} (i : Nat) {oi : Oper} (ei : ops[i]? = some oi) (hi : ∀ K' : Act → World → Prop, Shut (∀ a w, S w → (S w → wpAnyH P md ops Q S fuel (L.setIfInBounds i true) a w) → K' a w) → if Region.wanted oi (yielded ops a.tmps) = true then Oper.wp P oi a w K' Q else K' (a.put oi.dst undef) w) (hr : Region.ready md ops L = [i] := by kernel_rfl) : wpAnyH P md ops Q S (fuel + 1) L a w :=
 wpAnyH_ready hr (by simp) (AllReadyH.cons ei hi AllReadyH.nil)
theorem rdy2 {P : Program} {md : Region.Mode} {ops : Array Oper} {Q : Exit → Act → World → Prop} {S : World → Prop} {fuel : Nat} {L : Array Bool} {a : Act} {w : World} (i j : Nat) {oi oj : Oper} (ei : ops[i]? = some oi) (ej : ops[j]? = some oj) (hi : ∀ K' : Act → World → Prop, Shut (∀ a w, S w → (S w → wpAnyH P md ops Q S fuel (L.setIfInBounds i true) a w) → K' a w) → if Region.wanted oi (yielded ops a.tmps) = true then Oper.wp P oi a w K' Q else K' (a.put oi.dst undef) w) (hj : ∀ K' : Act → World → Prop, Shut (∀ a w, S w → (S w → wpAnyH P md ops Q S fuel (L.setIfInBounds j true) a w) → K' a w) → if Region.wanted oj (yielded ops a.tmps) = true then Oper.wp P oj a w K' Q else K' (a.put oj.dst undef) w) (hr : Region.ready md ops L = [i, j] := by kernel_rfl) : wpAnyH P md ops Q S (fuel + 1) L a w :=
 wpAnyH_ready hr (by simp) (AllReadyH.cons ei hi (AllReadyH.cons ej hj AllReadyH.nil))
theorem rdy3 {P : Program} {md : Region.Mode} {ops : Array Oper} {Q : Exit → Act → World → Prop} {S : World → Prop} {fuel : Nat} {L : Array Bool} {a : Act} {w : World} (i j k : Nat) {oi oj ok : Oper} (ei : ops[i]? = some oi) (ej : ops[j]? = some oj) (ek : ops[k]? = some ok) (hi : ∀ K' : Act → World → Prop, Shut (∀ a w, S w → (S w → wpAnyH P md ops Q S fuel (L.setIfInBounds i true) a w) → K' a w) → if Region.wanted oi (yielded ops a.tmps) = true then Oper.wp P oi a w K' Q else K' (a.put oi.dst undef) w) (hj : ∀ K' : Act → World → Prop, Shut (∀ a w, S w → (S w → wpAnyH P md ops Q S fuel (L.setIfInBounds j true) a w) → K' a w) → if Region.wanted oj (yielded ops a.tmps) = true then Oper.wp P oj a w K' Q else K' (a.put oj.dst undef) w) (hk : ∀ K' : Act → World → Prop, Shut (∀ a w, S w → (S w → wpAnyH P md ops Q S fuel (L.setIfInBounds k true) a w) → K' a w) → if Region.wanted ok (yielded ops a.tmps) = true then Oper.wp P ok a w K' Q else K' (a.put ok.dst undef) w) (hr : Region.ready md ops L = [i, j, k] := by kernel_rfl) : wpAnyH P md ops Q S (fuel + 1) L a w :=
 wpAnyH_ready hr (by simp) (AllReadyH.cons ei hi (AllReadyH.cons ej hj (AllReadyH.cons ek hk AllReadyH.nil)))
end Go.Proofs.YtlbcdngidfjogaaGreatDoor
