/- Both readings of a line tell the same: pure. (Written by py/cnr.py.) -/
import Derived.Test.YtihhbngpajephaaDoorCnQ
namespace Go.Proofs.YtihhbngpajephaaDoor.Sha
open Go.ChangeShapes Go.WideShapes Go.ChangeAt Go.RowKit
set_option linter.unusedVariables false
set_option linter.unusedSimpArgs false

abbrev LO := (Int × Int × Int × ByteArray × ByteArray) × ByteArray × Int
def rqOut (r : Option Rq) : LO := (((rqF r).kd, (rqF r).ss, (rqF r).sq, (rqF r).ky, (rqF r).vl), sayT (rqF r).what (rqF r).word, rqK r)
def z3 : LO := ((0, 0, 0, ⟨#[]⟩, ⟨#[]⟩), ⟨#[]⟩, 3)
theorem rqOut_none : rqOut none = z3 := rfl
theorem isW_lit (a : Array UInt8) (L : List UInt8) : isW ⟨a⟩ L = (a.toList == L) := by unfold isW; rw [ByteArray.toList_eq]
theorem isW_no {s : ByteArray} {a : Array UInt8} (h : ¬ s = ⟨a⟩) : isW s a.toList = false := by
  unfold isW
  rw [beq_eq_false_iff_ne, ByteArray.toList_eq]
  intro e
  exact h (by cases s; exact congrArg ByteArray.mk (Array.toList_inj.1 e))
theorem data_no {s : ByteArray} {a : Array UInt8} (h : ¬ s = ⟨a⟩) : ¬ s.data.toList = a.toList := fun e => h (by cases s; exact congrArg ByteArray.mk (Array.toList_inj.1 e))
theorem kindN_eq (s : ByteArray) : kindN s 6 = if isW s (#[115, 104, 117, 116] : Array UInt8).toList = true then 5 else if isW s (#[111, 112, 101, 110] : Array UInt8).toList = true then 4 else if isW s (#[100, 114, 111, 112] : Array UInt8).toList = true then 3 else if isW s (#[97, 100, 100] : Array UInt8).toList = true then 2 else if isW s (#[112, 117, 116] : Array UInt8).toList = true then 1 else 0 := by
  have h : ∀ k : Nat, kindN s (k + 1) = if isW s (([[], (#[112, 117, 116] : Array UInt8).toList, (#[97, 100, 100] : Array UInt8).toList, (#[100, 114, 111, 112] : Array UInt8).toList, (#[111, 112, 101, 110] : Array UInt8).toList, (#[115, 104, 117, 116] : Array UInt8).toList] : List (List UInt8)).getD k []) = true ∧ 0 < k then (k : Int) else kindN s k := fun k => rfl
  rw [h 5, h 4, h 3, h 2, h 1, kindN_one]
  simp
theorem l17P_no {l : List ByteArray} (ha : aloneB (l.getD 0 ByteArray.empty) = false) (hb : askB (l.getD 0 ByteArray.empty) = false) (hk : kindN (l.getD 0 ByteArray.empty) 6 = 0) : (if l.length = 0 then z3 else rlL (l17P l)) = z3 := by
  split
  · rfl
  · unfold l17P
    dsimp only
    rw [if_neg (by rw [ha]; simp), if_neg (by rw [hb]; simp), if_pos (.inl hk)]
    rfl
theorem l17_do {l : List ByteArray} {k : Int} (hk0 : ¬ k = 0) (ha : aloneB (l.getD 0 ByteArray.empty) = false) (hb : askB (l.getD 0 ByteArray.empty) = false) (hk : kindN (l.getD 0 ByteArray.empty) 6 = k) (h2 : 2 ≤ l.length) :
    (if l.length = 0 then z3 else rlL (l17P l)) = rlL (if 4 ≤ k then ((k, (numT (l.getD 1 ByteArray.empty)).1, 0, ⟨#[]⟩, ⟨#[]⟩), ⟨#[100, 111]⟩, ⟨#[]⟩, (numT (l.getD 1 ByteArray.empty)).2 && (decide (l.length = 2) && cmdOK k (numT (l.getD 1 ByteArray.empty)).1 0 ⟨#[]⟩ ⟨#[]⟩))
  else if (l.length : Int) ≠ 4 + (if k ≠ 3 then 1 else 0) then ((0, 0, 0, ⟨#[]⟩, ⟨#[]⟩), ⟨#[]⟩, ⟨#[]⟩, false)
  else ((k, (numT (l.getD 1 ByteArray.empty)).1, (numT (l.getD 2 ByteArray.empty)).1, l.getD 3 ByteArray.empty, if k ≠ 3 then l.getD 4 ByteArray.empty else ⟨#[]⟩), ⟨#[100, 111]⟩, ⟨#[]⟩, (numT (l.getD 1 ByteArray.empty)).2 && ((numT (l.getD 2 ByteArray.empty)).2 && cmdOK k (numT (l.getD 1 ByteArray.empty)).1 (numT (l.getD 2 ByteArray.empty)).1 (l.getD 3 ByteArray.empty) (if k ≠ 3 then l.getD 4 ByteArray.empty else ⟨#[]⟩)))) := by
  rw [if_neg (by omega)]
  unfold l17P
  dsimp only
  rw [if_neg (by rw [ha]; simp), if_neg (by rw [hb]; simp), hk, if_neg (by omega)]
theorem l17_short {l : List ByteArray} (ha : aloneB (l.getD 0 ByteArray.empty) = false) (hb : askB (l.getD 0 ByteArray.empty) = false) (h2 : l.length < 2) : (if l.length = 0 then z3 else rlL (l17P l)) = z3 := by
  split
  · rfl
  · unfold l17P
    dsimp only
    rw [if_neg (by rw [ha]; simp), if_neg (by rw [hb]; simp), if_pos (.inr h2)]
    rfl
theorem out_do (k s q : Int) (y v : ByteArray) (c : Bool) : rqOut (if c = true then doO k s q y v else none) = rlL (if (c && cmdOK k s q y v) = true then ((k, s, q, y, v), ⟨#[100, 111]⟩, ⟨#[]⟩, true) else ((k, s, q, y, v), ⟨#[100, 111]⟩, ⟨#[]⟩, false)) := by
  unfold doO
  cases c <;> cases cmdOK k s q y v <;> rfl
theorem flag_do (x : Int × Int × Int × ByteArray × ByteArray) (a b : ByteArray) (c : Bool) : rlL (if c = true then (x, a, b, true) else (x, a, b, false)) = rlL (x, a, b, c) := by cases c <;> rfl
theorem chg_same {l : List ByteArray} {k : Int} (h1 : 1 ≤ k) (h2 : k < 3) (ha : aloneB (l.getD 0 ByteArray.empty) = false) (hb : askB (l.getD 0 ByteArray.empty) = false) (hk : kindN (l.getD 0 ByteArray.empty) 6 = k) : rqOut (chgO k l) = if l.length = 0 then z3 else rlL (l17P l) := by
  rcases Nat.lt_or_ge l.length 2 with h | h
  · rw [l17_short ha hb h]; unfold chgO; rw [if_neg (by omega)]; rfl
  · rw [l17_do (by omega) ha hb hk h, if_neg (by omega), if_pos (show k ≠ 3 by omega)]
    unfold chgO
    by_cases h5 : l.length = 5
    · rw [if_pos h5, if_neg (show ¬ ((l.length : Int) ≠ 4 + 1) by omega), out_do, flag_do, Bool.and_assoc]
      rw [if_pos (show k ≠ 3 by omega)]
    · rw [if_neg h5, if_pos (show (l.length : Int) ≠ 4 + 1 by omega)]; rfl
theorem drp_same {l : List ByteArray} (ha : aloneB (l.getD 0 ByteArray.empty) = false) (hb : askB (l.getD 0 ByteArray.empty) = false) (hk : kindN (l.getD 0 ByteArray.empty) 6 = 3) : rqOut (drpO l) = if l.length = 0 then z3 else rlL (l17P l) := by
  rcases Nat.lt_or_ge l.length 2 with h | h
  · rw [l17_short ha hb h]; unfold drpO; rw [if_neg (by omega)]; rfl
  · rw [l17_do (by omega) ha hb hk h, if_neg (by omega), if_neg (show ¬ (3 : Int) ≠ 3 by simp), if_neg (show ¬ (3 : Int) ≠ 3 by simp)]
    unfold drpO
    by_cases h5 : l.length = 4
    · rw [if_pos h5, if_neg (show ¬ ((l.length : Int) ≠ 4 + 0) by omega), out_do, flag_do, Bool.and_assoc]
    · rw [if_neg h5, if_pos (show (l.length : Int) ≠ 4 + 0 by omega)]; rfl
theorem ses_same {l : List ByteArray} {k : Int} (h1 : 4 ≤ k) (ha : aloneB (l.getD 0 ByteArray.empty) = false) (hb : askB (l.getD 0 ByteArray.empty) = false) (hk : kindN (l.getD 0 ByteArray.empty) 6 = k) : rqOut (sesO k l) = if l.length = 0 then z3 else rlL (l17P l) := by
  rcases Nat.lt_or_ge l.length 2 with h | h
  · rw [l17_short ha hb h]; unfold sesO; rw [if_neg (by omega)]; rfl
  · rw [l17_do (by omega) ha hb hk h, if_pos h1]
    unfold sesO
    by_cases h5 : l.length = 2
    · rw [if_pos h5, out_do, flag_do, decide_eq_true h5, Bool.true_and]
    · rw [if_neg h5, decide_eq_false h5, Bool.false_and, Bool.and_false]; rfl
theorem al_same {l : List ByteArray} (ha : aloneB (l.getD 0 ByteArray.empty) = true) (hb : askB (l.getD 0 ByteArray.empty) = false) (hk : kindN (l.getD 0 ByteArray.empty) 6 = 0) : rqOut (alO l) = if l.length = 0 then z3 else rlL (l17P l) := by
  unfold alO
  by_cases h : l.length = 1
  · rw [if_pos h, if_neg (by omega)]
    unfold l17P
    dsimp only
    rw [if_pos ⟨h, ha⟩]
    rfl
  · rw [if_neg h]
    split
    · rfl
    · unfold l17P
      dsimp only
      rw [if_neg (fun e => h e.1), if_neg (by rw [hb]; simp), if_pos (.inl hk)]
      rfl
theorem ww_same {l : List ByteArray} (ha : aloneB (l.getD 0 ByteArray.empty) = false) (hb : askB (l.getD 0 ByteArray.empty) = true) (hk : kindN (l.getD 0 ByteArray.empty) 6 = 0) : rqOut (wwO l) = if l.length = 0 then z3 else rlL (l17P l) := by
  unfold wwO
  by_cases h : l.length = 2
  · rw [if_pos h, if_neg (by omega)]
    unfold l17P
    dsimp only
    rw [if_neg (by rw [ha]; simp), if_pos ⟨h, hb⟩]
    rfl
  · rw [if_neg h]
    split
    · rfl
    · unfold l17P
      dsimp only
      rw [if_neg (by rw [ha]; simp), if_neg (fun e => h e.1), if_pos (.inl hk)]
      rfl
theorem sil_ne {l : List ByteArray} {a : Array UInt8} (h : l.getD 0 ByteArray.empty = ⟨a⟩) (ha : hashB ⟨a⟩ = false) (h0 : ¬ l.length = 0) : silB l = false := by
  unfold silB; rw [if_neg h0, h]; exact ha
theorem len_ne {l : List ByteArray} {a : Array UInt8} (h : l.getD 0 ByteArray.empty = ⟨a⟩) (ha : 0 < a.size) : ¬ l.length = 0 := by
  intro e
  rw [List.eq_nil_of_length_eq_zero e] at h
  have : (ByteArray.empty).size = a.size := by rw [show ByteArray.empty = ⟨a⟩ from h]; rfl
  have z : (ByteArray.empty).size = 0 := rfl
  omega
theorem hash_add : hashB ⟨#[97, 100, 100]⟩ = false := by
  unfold hashB
  rw [if_pos (by decide), ByteArray.toList_eq]
  rfl
theorem wordy_add {l : List ByteArray} (h : l.getD 0 ByteArray.empty = ⟨#[97, 100, 100]⟩) : rqOut (reqO l) = if l.length = 0 then z3 else rlL (l17P l) := by
  have hf : rdrF (l.getD 0 ByteArray.empty).data.toList = ((22 : Nat) : Int) := by rw [h]; rfl
  have e : reqO l = chgO 2 l := by rw [reqO_at (sil_ne h hash_add (len_ne h (by decide))) _ hf]; rfl
  rw [e]
  refine chg_same (by decide) (by decide) ?_ ?_ ?_
  · rw [h]; unfold aloneB; rw [isW_lit, isW_lit, isW_lit]; rfl
  · rw [h]; unfold askB; rw [isW_lit, isW_lit]; rfl
  · rw [h, kindN_eq, isW_lit, isW_lit, isW_lit, isW_lit, isW_lit]; rfl
theorem hash_drop : hashB ⟨#[100, 114, 111, 112]⟩ = false := by
  unfold hashB
  rw [if_pos (by decide), ByteArray.toList_eq]
  rfl
theorem wordy_drop {l : List ByteArray} (h : l.getD 0 ByteArray.empty = ⟨#[100, 114, 111, 112]⟩) : rqOut (reqO l) = if l.length = 0 then z3 else rlL (l17P l) := by
  have hf : rdrF (l.getD 0 ByteArray.empty).data.toList = ((23 : Nat) : Int) := by rw [h]; rfl
  have e : reqO l = drpO l := by rw [reqO_at (sil_ne h hash_drop (len_ne h (by decide))) _ hf]; rfl
  rw [e]
  refine drp_same ?_ ?_ ?_
  · rw [h]; unfold aloneB; rw [isW_lit, isW_lit, isW_lit]; rfl
  · rw [h]; unfold askB; rw [isW_lit, isW_lit]; rfl
  · rw [h, kindN_eq, isW_lit, isW_lit, isW_lit, isW_lit, isW_lit]; rfl
theorem hash_leaf : hashB ⟨#[108, 101, 97, 102]⟩ = false := by
  unfold hashB
  rw [if_pos (by decide), ByteArray.toList_eq]
  rfl
theorem wordy_leaf {l : List ByteArray} (h : l.getD 0 ByteArray.empty = ⟨#[108, 101, 97, 102]⟩) : rqOut (reqO l) = if l.length = 0 then z3 else rlL (l17P l) := by
  have hf : rdrF (l.getD 0 ByteArray.empty).data.toList = ((27 : Nat) : Int) := by rw [h]; rfl
  have e : reqO l = wwO l := by rw [reqO_at (sil_ne h hash_leaf (len_ne h (by decide))) _ hf]; rfl
  rw [e]
  refine ww_same ?_ ?_ ?_
  · rw [h]; unfold aloneB; rw [isW_lit, isW_lit, isW_lit]; rfl
  · rw [h]; unfold askB; rw [isW_lit, isW_lit]; rfl
  · rw [h, kindN_eq, isW_lit, isW_lit, isW_lit, isW_lit, isW_lit]; rfl
theorem hash_list : hashB ⟨#[108, 105, 115, 116]⟩ = false := by
  unfold hashB
  rw [if_pos (by decide), ByteArray.toList_eq]
  rfl
theorem wordy_list {l : List ByteArray} (h : l.getD 0 ByteArray.empty = ⟨#[108, 105, 115, 116]⟩) : rqOut (reqO l) = if l.length = 0 then z3 else rlL (l17P l) := by
  have hf : rdrF (l.getD 0 ByteArray.empty).data.toList = ((26 : Nat) : Int) := by rw [h]; rfl
  have e : reqO l = alO l := by rw [reqO_at (sil_ne h hash_list (len_ne h (by decide))) _ hf]; rfl
  rw [e]
  refine al_same ?_ ?_ ?_
  · rw [h]; unfold aloneB; rw [isW_lit, isW_lit, isW_lit]; rfl
  · rw [h]; unfold askB; rw [isW_lit, isW_lit]; rfl
  · rw [h, kindN_eq, isW_lit, isW_lit, isW_lit, isW_lit, isW_lit]; rfl
theorem hash_open : hashB ⟨#[111, 112, 101, 110]⟩ = false := by
  unfold hashB
  rw [if_pos (by decide), ByteArray.toList_eq]
  rfl
theorem wordy_open {l : List ByteArray} (h : l.getD 0 ByteArray.empty = ⟨#[111, 112, 101, 110]⟩) : rqOut (reqO l) = if l.length = 0 then z3 else rlL (l17P l) := by
  have hf : rdrF (l.getD 0 ByteArray.empty).data.toList = ((24 : Nat) : Int) := by rw [h]; rfl
  have e : reqO l = sesO 4 l := by rw [reqO_at (sil_ne h hash_open (len_ne h (by decide))) _ hf]; rfl
  rw [e]
  refine ses_same (by decide) ?_ ?_ ?_
  · rw [h]; unfold aloneB; rw [isW_lit, isW_lit, isW_lit]; rfl
  · rw [h]; unfold askB; rw [isW_lit, isW_lit]; rfl
  · rw [h, kindN_eq, isW_lit, isW_lit, isW_lit, isW_lit, isW_lit]; rfl
theorem hash_put : hashB ⟨#[112, 117, 116]⟩ = false := by
  unfold hashB
  rw [if_pos (by decide), ByteArray.toList_eq]
  rfl
theorem wordy_put {l : List ByteArray} (h : l.getD 0 ByteArray.empty = ⟨#[112, 117, 116]⟩) : rqOut (reqO l) = if l.length = 0 then z3 else rlL (l17P l) := by
  have hf : rdrF (l.getD 0 ByteArray.empty).data.toList = ((21 : Nat) : Int) := by rw [h]; rfl
  have e : reqO l = chgO 1 l := by rw [reqO_at (sil_ne h hash_put (len_ne h (by decide))) _ hf]; rfl
  rw [e]
  refine chg_same (by decide) (by decide) ?_ ?_ ?_
  · rw [h]; unfold aloneB; rw [isW_lit, isW_lit, isW_lit]; rfl
  · rw [h]; unfold askB; rw [isW_lit, isW_lit]; rfl
  · rw [h, kindN_eq, isW_lit, isW_lit, isW_lit, isW_lit, isW_lit]; rfl
theorem hash_root : hashB ⟨#[114, 111, 111, 116]⟩ = false := by
  unfold hashB
  rw [if_pos (by decide), ByteArray.toList_eq]
  rfl
theorem wordy_root {l : List ByteArray} (h : l.getD 0 ByteArray.empty = ⟨#[114, 111, 111, 116]⟩) : rqOut (reqO l) = if l.length = 0 then z3 else rlL (l17P l) := by
  have hf : rdrF (l.getD 0 ByteArray.empty).data.toList = ((26 : Nat) : Int) := by rw [h]; rfl
  have e : reqO l = alO l := by rw [reqO_at (sil_ne h hash_root (len_ne h (by decide))) _ hf]; rfl
  rw [e]
  refine al_same ?_ ?_ ?_
  · rw [h]; unfold aloneB; rw [isW_lit, isW_lit, isW_lit]; rfl
  · rw [h]; unfold askB; rw [isW_lit, isW_lit]; rfl
  · rw [h, kindN_eq, isW_lit, isW_lit, isW_lit, isW_lit, isW_lit]; rfl
theorem hash_shut : hashB ⟨#[115, 104, 117, 116]⟩ = false := by
  unfold hashB
  rw [if_pos (by decide), ByteArray.toList_eq]
  rfl
theorem wordy_shut {l : List ByteArray} (h : l.getD 0 ByteArray.empty = ⟨#[115, 104, 117, 116]⟩) : rqOut (reqO l) = if l.length = 0 then z3 else rlL (l17P l) := by
  have hf : rdrF (l.getD 0 ByteArray.empty).data.toList = ((25 : Nat) : Int) := by rw [h]; rfl
  have e : reqO l = sesO 5 l := by rw [reqO_at (sil_ne h hash_shut (len_ne h (by decide))) _ hf]; rfl
  rw [e]
  refine ses_same (by decide) ?_ ?_ ?_
  · rw [h]; unfold aloneB; rw [isW_lit, isW_lit, isW_lit]; rfl
  · rw [h]; unfold askB; rw [isW_lit, isW_lit]; rfl
  · rw [h, kindN_eq, isW_lit, isW_lit, isW_lit, isW_lit, isW_lit]; rfl
theorem hash_size : hashB ⟨#[115, 105, 122, 101]⟩ = false := by
  unfold hashB
  rw [if_pos (by decide), ByteArray.toList_eq]
  rfl
theorem wordy_size {l : List ByteArray} (h : l.getD 0 ByteArray.empty = ⟨#[115, 105, 122, 101]⟩) : rqOut (reqO l) = if l.length = 0 then z3 else rlL (l17P l) := by
  have hf : rdrF (l.getD 0 ByteArray.empty).data.toList = ((26 : Nat) : Int) := by rw [h]; rfl
  have e : reqO l = alO l := by rw [reqO_at (sil_ne h hash_size (len_ne h (by decide))) _ hf]; rfl
  rw [e]
  refine al_same ?_ ?_ ?_
  · rw [h]; unfold aloneB; rw [isW_lit, isW_lit, isW_lit]; rfl
  · rw [h]; unfold askB; rw [isW_lit, isW_lit]; rfl
  · rw [h, kindN_eq, isW_lit, isW_lit, isW_lit, isW_lit, isW_lit]; rfl
theorem hash_value : hashB ⟨#[118, 97, 108, 117, 101]⟩ = false := by
  unfold hashB
  rw [if_pos (by decide), ByteArray.toList_eq]
  rfl
theorem wordy_value {l : List ByteArray} (h : l.getD 0 ByteArray.empty = ⟨#[118, 97, 108, 117, 101]⟩) : rqOut (reqO l) = if l.length = 0 then z3 else rlL (l17P l) := by
  have hf : rdrF (l.getD 0 ByteArray.empty).data.toList = ((27 : Nat) : Int) := by rw [h]; rfl
  have e : reqO l = wwO l := by rw [reqO_at (sil_ne h hash_value (len_ne h (by decide))) _ hf]; rfl
  rw [e]
  refine ww_same ?_ ?_ ?_
  · rw [h]; unfold aloneB; rw [isW_lit, isW_lit, isW_lit]; rfl
  · rw [h]; unfold askB; rw [isW_lit, isW_lit]; rfl
  · rw [h, kindN_eq, isW_lit, isW_lit, isW_lit, isW_lit, isW_lit]; rfl
theorem req_same (l : List ByteArray) : rqOut (reqO l) = if l.length = 0 then z3 else rlL (l17P l) := by
  by_cases h0 : l.getD 0 ByteArray.empty = ⟨#[97, 100, 100]⟩
  · exact wordy_add h0
  by_cases h1 : l.getD 0 ByteArray.empty = ⟨#[100, 114, 111, 112]⟩
  · exact wordy_drop h1
  by_cases h2 : l.getD 0 ByteArray.empty = ⟨#[108, 101, 97, 102]⟩
  · exact wordy_leaf h2
  by_cases h3 : l.getD 0 ByteArray.empty = ⟨#[108, 105, 115, 116]⟩
  · exact wordy_list h3
  by_cases h4 : l.getD 0 ByteArray.empty = ⟨#[111, 112, 101, 110]⟩
  · exact wordy_open h4
  by_cases h5 : l.getD 0 ByteArray.empty = ⟨#[112, 117, 116]⟩
  · exact wordy_put h5
  by_cases h6 : l.getD 0 ByteArray.empty = ⟨#[114, 111, 111, 116]⟩
  · exact wordy_root h6
  by_cases h7 : l.getD 0 ByteArray.empty = ⟨#[115, 104, 117, 116]⟩
  · exact wordy_shut h7
  by_cases h8 : l.getD 0 ByteArray.empty = ⟨#[115, 105, 122, 101]⟩
  · exact wordy_size h8
  by_cases h9 : l.getD 0 ByteArray.empty = ⟨#[118, 97, 108, 117, 101]⟩
  · exact wordy_value h9
  have hk : kindN (l.getD 0 ByteArray.empty) 6 = 0 := by
    rw [kindN_eq, isW_no h7, isW_no h4, isW_no h1, isW_no h0, isW_no h5]; rfl
  have ha : aloneB (l.getD 0 ByteArray.empty) = false := by
    have e1 := isW_no h6
    have e2 := isW_no h8
    have e3 := isW_no h3
    unfold aloneB
    exact Bool.or_eq_false_iff.2 ⟨e1, Bool.or_eq_false_iff.2 ⟨e2, e3⟩⟩
  have hb : askB (l.getD 0 ByteArray.empty) = false := by
    have e1 := isW_no h2
    have e2 := isW_no h9
    unfold askB
    exact Bool.or_eq_false_iff.2 ⟨e1, e2⟩
  rw [l17P_no ha hb hk]
  have hr : rdrF (l.getD 0 ByteArray.empty).data.toList = -1 := by
    unfold rdrF
    rw [if_neg (data_no h0), if_neg (data_no h1), if_neg (data_no h2), if_neg (data_no h3), if_neg (data_no h4), if_neg (data_no h5), if_neg (data_no h6), if_neg (data_no h7), if_neg (data_no h8), if_neg (data_no h9)]
  have e : reqO l = none := by
    unfold reqO
    split
    · rfl
    · rw [hr]; rfl
  rw [e]; rfl
theorem rl_same (s : ByteArray) : rlO s = rlS s := by
  unfold rlO rlS
  split
  · rfl
  · exact req_same (wordsL s)
end Go.Proofs.YtihhbngpajephaaDoor.Sha
