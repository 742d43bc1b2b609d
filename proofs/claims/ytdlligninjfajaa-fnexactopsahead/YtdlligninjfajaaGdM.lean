/- Rows of flags: marks laid into them, and found there. -/
import Derived.Test.YtdlligninjfajaaGd
namespace Go.Proofs.Ytdlligninjfajaa
open Go.ChangeShapes Go.WideShapes Go.ChangeAt Go.RowKit Go.Deep
set_option linter.unusedVariables false
set_option linter.unusedSimpArgs false

def mrow (c n : Nat) : List Bool := (List.range n).map fun (j : Nat) => mbo ((c : Int) + (j : Int))
def mTo (c : Nat) (l : List Bool) (k : Nat) : List Bool := (List.range l.length).map fun (j : Nat) => if j < k then mbo ((c : Int) + (j : Int)) else l.getD j false
theorem mrow_len (c n : Nat) : (mrow c n).length = n := by simp [mrow]
theorem mTo_len (c : Nat) (l : List Bool) (k : Nat) : (mTo c l k).length = l.length := by simp [mTo]
theorem mTo_zero (c : Nat) (l : List Bool) : mTo c l 0 = l := by
  apply List.ext_getElem?
  intro j
  by_cases hj : j < l.length
  · simp [mTo, hj, List.getD_eq_getElem?_getD]
  · simp [mTo, hj]
theorem mTo_all (c : Nat) (l : List Bool) : mTo c l l.length = mrow c l.length := by
  apply List.ext_getElem?
  intro j
  by_cases hj : j < l.length
  · simp [mTo, mrow, hj]
  · simp [mTo, mrow, hj]
theorem mTo_set (c : Nat) (l : List Bool) (k : Nat) (hk : k < l.length) : ((mTo c l k).map Value.bool).set k (.bool (mbo ((c : Int) + (k : Int)))) = (mTo c l (k + 1)).map Value.bool := by
  apply List.ext_getElem?
  intro j
  rw [List.getElem?_set]
  simp only [List.length_map, mTo_len, List.getElem?_map]
  by_cases e : k = j
  · subst e
    rw [if_pos rfl, if_pos hk]
    simp [mTo, hk]
  · rw [if_neg e]
    by_cases hj : j < l.length
    · by_cases h1 : j < k
      · simp [mTo, hj, h1, show j < k + 1 by omega]
      · simp [mTo, hj, h1, show ¬ j < k + 1 by omega]
    · simp [mTo, hj]
theorem mrow_get (c n j : Nat) (h : j < n) : (mrow c n).getD j false = mbo ((c : Int) + (j : Int)) := by simp [mrow, List.getD_eq_getElem?_getD, h]
set_option maxRecDepth 100000 in
set_option maxHeartbeats 1000000 in
theorem markBoolS_at (c : Nat) (hc1 : c ≤ 8388608) (B : Nat) (v : Value) (l : List Bool) (w : World) (h : OwnBo B w v l) (hl : l.length ≤ 1048576) :
    Calls Try.prog 42 #[v, .int .i64 (c : Int)] w fun e w' => e = .returned (.int .i64 ((c : Int) + (l.length : Int))) ∧ OwnBo B w' v (mrow c l.length) ∧ Touch (fun k => v.ownBlock = some k) w w' := by
  rcases own_shape h with ⟨rfl, h0⟩ | ⟨g, cap, rfl, hB, hlt0, hn, hm⟩
  · obtain rfl : l = [] := List.eq_nil_of_length_eq_zero h0
    have HO : Hid (OwnBo B w (.slice none 0 0) (mrow c 0)) := hide h
    clear h
    go_enter Try.func42, Try.ntmps42
    go_wp2_with fail
    go_loop [1, 5] (fun k i => k = .int .i64 (c : Int) ∧ i = .int .i64 0) (fun _ _ => 0)
    case atStart => exact ⟨rfl, rfl⟩
    case round =>
      obtain ⟨rfl, rfl⟩ := hrel
      go_wp2_with fail
      go_ret
      exact ⟨ret_int (by simp), unhide HO, Touch.refl _ _⟩
  · have H : Hid (w.ownsRow B 4 1 (.slice (some ⟨g, 0, none⟩) l.length cap) l.length ((mTo c l 0).map Value.bool)) := hide (by rw [mTo_zero]; exact h)
    clear h
    go_enter Try.func42, Try.ntmps42
    go_wp2_with fail
    go_loopw [1, 5] (fun k i wr => ∃ j : Nat, j ≤ l.length ∧ k = .int .i64 ((c : Int) + (j : Int)) ∧ i = .int .i64 j ∧ wr.ownsRow B 4 1 (.slice (some ⟨g, 0, none⟩) l.length cap) l.length ((mTo c l j).map Value.bool) ∧ Touch (fun k => (Value.slice (some ⟨g, 0, none⟩) l.length cap).ownBlock = some k) w wr) (fun _ i _ => l.length - (intOf i).toNat)
    case atStart => exact ⟨0, Nat.zero_le _, congrArg (Value.int .i64) (by omega), rfl, unhide H, Touch.refl _ _⟩
    case round =>
      obtain ⟨j, hj, rfl, rfl, hL, hT⟩ := hrel
      by_cases hlt2 : j < l.length
      · have p0 : (0 : Int) ≤ (j : Int) := by omega
        have p1 : (j : Int) < (l.length : Int) := by omega
        have hc0 := hL.cellAt j (by omega)
        rw [List.getElem?_map, List.getElem?_eq_getElem (by rw [mTo_len]; exact hlt2)] at hc0
        simp only [Option.map_some] at hc0
        obtain ⟨x, hc0⟩ : ∃ x, wr.cell? ⟨g, j, none⟩ = some (.bool x) := ⟨_, hc0⟩
        have hf0 := hL.frozenAt j
        have q1 : IntKind.i64.wrap ((c : Int) + (j : Int) + 1) = (c : Int) + (j : Int) + 1 := wrapOp _ (by omega) (by omega)
        have R := hide (And.intro (hL.stored j (.bool (mbo ((c : Int) + (j : Int))))).1 (hT.setCell ⟨g, j, none⟩ (.bool (mbo ((c : Int) + (j : Int)))) (fun _ => rfl)))
        rw [mTo_set c l j hlt2] at R
        have m2 : (((c : Int) + (j : Int)) % 3 == 0) = mbo ((c : Int) + (j : Int)) := rfl
        clear hL hT
        generalize mbo ((c : Int) + (j : Int)) = z at *
        go_wp2_with fail
        refine ⟨⟨j + 1, by omega, congrArg (Value.int .i64) (by omega), by go_num, (unhide R).1, (unhide R).2⟩, ?_⟩
        simp [intOf]; omega
      · obtain rfl : j = l.length := by omega
        have R := hide (And.intro hL hT)
        clear hL hT
        go_wp2_with fail
        go_ret
        refine ⟨rfl, ?_, (unhide R).2⟩
        have := (unhide R).1
        rw [mTo_all] at this
        unfold OwnBo
        rw [mrow_len]
        exact this
set_option maxRecDepth 100000 in
set_option maxHeartbeats 1000000 in
theorem heldBoolS_at (c : Nat) (hc1 : c ≤ 8388608) (v : Value) (n : Nat) (w : World) (h : Bos w v (mrow c n)) (hl : n ≤ 1048576) :
    Calls Try.prog 43 #[v, .int .i64 (c : Int)] w fun e w' => e = .returned (.int .i64 ((c : Int) + (n : Int))) ∧ w' = w := by
  obtain ⟨a, cap, rfl, hm, hc⟩ := h
  rw [mrow_len] at hc ⊢
  have HC := hide hc
  clear hc hm
  go_enter Try.func43, Try.ntmps43
  go_wp2_with fail
  go_loop [1, 5] (fun k i => ∃ j : Nat, j ≤ n ∧ k = .int .i64 ((c : Int) + (j : Int)) ∧ i = .int .i64 j) (fun _ i => n - (intOf i).toNat)
  case atStart => exact ⟨0, Nat.zero_le _, congrArg (Value.int .i64) (by omega), rfl⟩
  case round =>
    obtain ⟨j, hj, rfl, rfl⟩ := hrel
    by_cases hlt2 : j < n
    · obtain ⟨b, off, rfl, hbl, hsrc⟩ : ∃ b off, a = some ⟨b, off, none⟩ ∧ b < w.heap.size ∧ ∀ i, i < n → w.cell? ⟨b, off + i, none⟩ = some (.bool ((mrow c n).getD i false)) := by
        rcases unhide HC with h0 | h1
        · omega
        · exact h1
      have c0 := hsrc j hlt2
      rw [mrow_get c n j hlt2] at c0
      have p0 : (0 : Int) ≤ (j : Int) := by omega
      have p1 : (j : Int) < (n : Int) := by omega
      have q1 : IntKind.i64.wrap ((c : Int) + (j : Int) + 1) = (c : Int) + (j : Int) + 1 := wrapOp _ (by omega) (by omega)
      have m2 : (((c : Int) + (j : Int)) % 3 == 0) = mbo ((c : Int) + (j : Int)) := rfl
      clear hsrc
      generalize mbo ((c : Int) + (j : Int)) = z at *
      have mm : (z != z) = false := by simp
      go_wp2_with fail
      refine ⟨⟨j + 1, by omega, congrArg (Value.int .i64) (by omega), by go_num⟩, ?_⟩
      simp [intOf]; omega
    · obtain rfl : j = n := by omega
      go_wp2_with fail
      go_ret
      exact ⟨rfl, rfl⟩
/-- How many flags the first rows have. -/
def cntR (ls : List (List Bool)) : Nat → Nat
  | 0 => 0
  | k + 1 => cntR ls k + (ls.getD k []).length
theorem cntR_mono (ls : List (List Bool)) (i j : Nat) (h : i ≤ j) : cntR ls i ≤ cntR ls j := by
  induction j with
  | zero => obtain rfl : i = 0 := by omega
            exact Nat.le_refl _
  | succ j ih =>
    by_cases e : i = j + 1
    · subst e; exact Nat.le_refl _
    · have := ih (by omega)
      show _ ≤ cntR ls j + _
      omega
def mG (c : Nat) (ls : List (List Bool)) : Nat → List (List Bool)
  | 0 => ls
  | i + 1 => (mG c ls i).set i (mrow (c + cntR ls i) (ls.getD i []).length)
theorem mG_len (c : Nat) (ls : List (List Bool)) (i : Nat) : (mG c ls i).length = ls.length := by
  induction i with
  | zero => rfl
  | succ i ih => simp [mG, ih]
theorem mG_ge (c : Nat) (ls : List (List Bool)) (i j : Nat) (h : i ≤ j) : (mG c ls i).getD j [] = ls.getD j [] := by
  induction i with
  | zero => rfl
  | succ i ih =>
    unfold mG
    rw [List.getD_eq_getElem?_getD, List.getElem?_set_ne (by omega), ← List.getD_eq_getElem?_getD, ih (by omega)]
theorem mG_lt (c : Nat) (ls : List (List Bool)) (i j : Nat) (h : j < i) (hj : j < ls.length) : (mG c ls i).getD j [] = mrow (c + cntR ls j) (ls.getD j []).length := by
  induction i with
  | zero => omega
  | succ i ih =>
    unfold mG
    by_cases e : j = i
    · subst e
      rw [List.getD_eq_getElem?_getD, List.getElem?_set_self (by rw [mG_len]; exact hj)]; rfl
    · rw [List.getD_eq_getElem?_getD, List.getElem?_set_ne (fun x => e x.symm), ← List.getD_eq_getElem?_getD, ih (by omega)]
variable {B : Nat} {w w' : World} {v : Value} {rv : List Value} {ls : List (List Bool)}
theorem Gd.sl (h : Gd B w v rv ls) : ∃ a c, v = .slice a ls.length c := by
  rcases h.shape with ⟨rfl, h0⟩ | ⟨g, cap, rfl, _⟩
  · have := h.ln; rw [h0] at this; simp at this; rw [← this]; exact ⟨none, 0, rfl⟩
  · rw [h.ln]; exact ⟨_, _, rfl⟩
/-- The row at i, in hand. -/
theorem Gd.at_ {a : Option Addr} {n c : Nat} (h : Gd B w (.slice a n c) rv ls) (i : Nat) (hi : i < ls.length) : ∃ g, a = some ⟨g, 0, none⟩ ∧ g < w.heap.size ∧ w.cell? ⟨g, i, none⟩ = some (rv.getD i default) ∧ ∃ ra rc, rv.getD i default = .slice ra (ls.getD i []).length rc := by
  have hr : i < rv.length := by rw [h.ln]; exact hi
  rcases h.shape with ⟨_, h0⟩ | ⟨g, cap, e, _, hl⟩
  · rw [h0] at hr; simp at hr
  · simp only [Value.slice.injEq] at e
    obtain ⟨rfl, rfl, rfl⟩ := e
    refine ⟨g, rfl, hl, h.cell i hr, ?_⟩
    rcases own_shape (h.sub i hr) with ⟨e, h0⟩ | ⟨g2, cap2, e, _⟩
    · exact ⟨none, 0, by rw [e, h0]⟩
    · exact ⟨_, _, e⟩
set_option maxRecDepth 100000 in
set_option maxHeartbeats 1000000 in
theorem markBoolSS_any (h : Gd B w v rv ls) (hs : ∀ i, i < ls.length → (ls.getD i []).length ≤ 1048576) (hl : ls.length ≤ 1048576) (ht : 1 + cntR ls ls.length ≤ 8388608) :
    Calls Try.prog 17 #[v, .int .i64 1] w fun e w' => e = .returned (.int .i64 (1 + (cntR ls ls.length : Int))) ∧ Gd B w' v rv (mG 1 ls ls.length) ∧ Touch (GdT v rv) w w' := by
  obtain ⟨a, c, rfl⟩ := h.sl
  have HG := hide h
  have HSZ := hide hs
  have L1 := hide h.ln
  have HTT := hide ht
  clear h hs ht
  go_enter Try.func17, Try.ntmps17
  go_wp2_with fail
  go_loopw [1, 5] (fun q i wr => ∃ k cN : Nat, k ≤ ls.length ∧ i = .int .i64 k ∧ q = .int .i64 (cN : Int) ∧ Hid (cN = 1 + cntR ls k) ∧ Gd B wr (.slice a ls.length c) rv (mG 1 ls k) ∧ Touch (GdT (.slice a ls.length c) rv) w wr) (fun _ i _ => ls.length - (intOf i).toNat)
  case atStart => exact ⟨0, 1, Nat.zero_le _, rfl, rfl, rfl, unhide HG, Touch.refl _ _⟩
  case round =>
    obtain ⟨k, cN, hk, rfl, rfl, HcN, hG, hT⟩ := hrel
    by_cases hlt : k < ls.length
    · have hr1 : k < rv.length := by have := unhide L1; omega
      obtain ⟨g, rfl, hgl, hc0, ra, rc, hra⟩ := hG.at_ k (by rw [mG_len]; exact hlt)
      have z0 : (0 : Int) ≤ (k : Int) := by omega
      have z1 : (k : Int) < (ls.length : Int) := by omega
      have o1 := hG.sub k hr1
      rw [mG_ge 1 ls k k (Nat.le_refl _)] at o1 hra
      have HM := hide (markBoolS_at cN (by have := unhide HTT; have := unhide HcN; have := cntR_mono ls k ls.length (by omega); omega) B (rv.getD k default) (ls.getD k []) wr o1 (unhide HSZ k hlt))
      have HNX := hide (fun (wx : World) (hO : OwnBo B wx (rv.getD k default) (mrow (1 + cntR ls k) (ls.getD k []).length)) (hx : Touch (fun q => (rv.getD k default).ownBlock = some q) wr wx) => And.intro (hG.subset hr1 hx hO) (hT.trans (T' := fun q => (rv.getD k default).ownBlock = some q) hx (fun q _ e => .inr ⟨k, hr1, e⟩)))
      rw [← unhide HcN] at HNX
      have HSU : Hid (cN + (ls.getD k []).length = 1 + cntR ls (k + 1)) := hide (by rw [unhide HcN]; show _ = 1 + (cntR ls k + (ls.getD k []).length); omega)
      rw [hra] at hc0
      have HRA := hide hra
      rw [hra] at HM
      have HG1 : Hid (mG 1 ls (k + 1) = (mG 1 ls k).set k (mrow cN (ls.getD k []).length)) := hide (by rw [unhide HcN]; rfl)
      clear hG hT o1 hra HcN
      generalize (ls.getD k []).length = ln at *
      go_wp2_with fail
      refine (unhide HM).mono ?_
      rintro e w3 ⟨rfl, hO3, hT3⟩
      rw [← unhide HRA] at hO3 hT3
      have R3 := unhide HNX w3 hO3 hT3
      rw [← unhide HG1] at R3
      have HR3 := hide R3
      clear hO3 hT3 HM HNX hc0 R3
      go_wp2_with fail
      refine ⟨⟨k + 1, cN + ln, by omega, by go_num, congrArg (Value.int .i64) (by omega), HSU, (unhide HR3).1, (unhide HR3).2⟩, ?_⟩
      simp [intOf]; omega
    · obtain rfl : k = ls.length := by omega
      have R := hide (And.intro hG hT)
      have HE : Hid ((cN : Int) = 1 + (cntR ls ls.length : Int)) := hide (by have := unhide HcN; omega)
      clear hG hT HcN
      go_wp2_with fail
      go_ret
      exact ⟨ret_int (unhide HE), (unhide R).1, (unhide R).2⟩
set_option maxRecDepth 100000 in
set_option maxHeartbeats 1000000 in
theorem heldBoolSS_any (h : Gd B w v rv (mG 1 ls ls.length)) (hs : ∀ i, i < ls.length → (ls.getD i []).length ≤ 1048576) (hl : ls.length ≤ 1048576) (ht : 1 + cntR ls ls.length ≤ 8388608) :
    Calls Try.prog 18 #[v, .int .i64 1] w fun e w' => e = .returned (.int .i64 (1 + (cntR ls ls.length : Int))) ∧ Below w.heap.size w w' := by
  obtain ⟨a, c, rfl⟩ := h.sl
  rw [mG_len] at h ⊢
  have HG := hide h
  have HSZ := hide hs
  have L1 : Hid (rv.length = ls.length) := hide (by rw [h.ln, mG_len])
  have HTT := hide ht
  clear h hs ht
  go_enter Try.func18, Try.ntmps18
  go_wp2_with fail
  go_loop [1, 5] (fun q i => ∃ k cN : Nat, k ≤ ls.length ∧ i = .int .i64 k ∧ q = .int .i64 (cN : Int) ∧ Hid (cN = 1 + cntR ls k)) (fun _ i => ls.length - (intOf i).toNat)
  case atStart => exact ⟨0, 1, Nat.zero_le _, rfl, rfl, rfl⟩
  case round =>
    obtain ⟨k, cN, hk, rfl, rfl, HcN⟩ := hrel
    by_cases hlt : k < ls.length
    · have hr1 : k < rv.length := by have := unhide L1; omega
      obtain ⟨g, rfl, hgl, hc0, ra, rc, hra⟩ := (unhide HG).at_ k (by rw [mG_len]; exact hlt)
      have z0 : (0 : Int) ≤ (k : Int) := by omega
      have z1 : (k : Int) < (ls.length : Int) := by omega
      have o1 := (unhide HG).sub k hr1
      rw [mG_lt 1 ls ls.length k hlt hlt, ← unhide HcN] at o1 hra
      have HM := hide (heldBoolS_at cN (by have := unhide HTT; have := unhide HcN; have := cntR_mono ls k ls.length (by omega); omega) (rv.getD k default) (ls.getD k []).length w o1.bos (unhide HSZ k hlt))
      have HSU : Hid (cN + (ls.getD k []).length = 1 + cntR ls (k + 1)) := hide (by rw [unhide HcN]; show _ = 1 + (cntR ls k + (ls.getD k []).length); omega)
      rw [hra] at hc0 HM
      clear o1 hra HcN
      have hpos : ¬ ((cN : Int) + ((ls.getD k []).length : Int)) < 0 := by omega
      generalize (mrow cN (ls.getD k []).length).length = lm at *
      generalize (ls.getD k []).length = ln at *
      go_wp2_with fail
      refine (unhide HM).mono ?_
      rintro e w3 ⟨rfl, hw3⟩
      subst w3
      go_wp2_with fail
      refine ⟨⟨k + 1, cN + ln, by omega, by go_num, congrArg (Value.int .i64) (by omega), HSU⟩, ?_⟩
      simp [intOf]; omega
    · obtain rfl : k = ls.length := by omega
      have HE : Hid ((cN : Int) = 1 + (cntR ls ls.length : Int)) := hide (by have := unhide HcN; omega)
      clear HcN
      go_wp2_with fail
      go_ret
      exact ⟨ret_int (unhide HE), Below.refl _ _⟩
end Go.Proofs.Ytdlligninjfajaa
