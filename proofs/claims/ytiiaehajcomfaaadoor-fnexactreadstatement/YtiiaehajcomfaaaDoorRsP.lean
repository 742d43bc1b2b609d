/- A statement's text read back: pure. -/
import Derived.Test.YtiiaehajcomfaaaDoorRsS
import Derived.Test.YtiiaehajcomfaaaDoorHashRb
import Derived.Lib.CountLaws
namespace Go.Proofs.YtiiaehajcomfaaaDoor.Sha
open Go.ChangeShapes Go.WideShapes Go.ChangeAt Go.RowKit
set_option linter.unusedVariables false
set_option linter.unusedSimpArgs false

/-- Words with a blank between any two. -/
def joinW : List (List UInt8) → List UInt8
  | [] => []
  | [x] => x
  | x :: y :: ws => x ++ 32 :: joinW (y :: ws)
def WordL (x : List UInt8) : Prop := x ≠ [] ∧ ∀ b ∈ x, b.toNat ≠ 32
theorem size_toL (t : ByteArray) : t.size = t.data.toList.length := by rw [Array.length_toList]; rfl
theorem bAt_toL (t : ByteArray) (i : Nat) : bAt t i = ((t.data.toList.getD i 0).toNat : Int) := rfl
theorem ext_mid {t : ByteArray} {A x R : List UInt8} (h : t.data.toList = A ++ (x ++ R)) : t.extract A.length (A.length + x.length) = ⟨x.toArray⟩ := by
  apply ByteArray.ext
  rw [ByteArray.data_extract]
  apply Array.ext'
  simp [h, List.extract]
theorem seg_run {t : ByteArray} {A x R : List UInt8} {o : List ByteArray} (h : t.data.toList = A ++ (x ++ R)) (hb : ∀ b ∈ x, b.toNat ≠ 32) (hw : wst t A.length = (o, A.length)) :
    ∀ j, j ≤ x.length → wst t (A.length + j) = (o, A.length) := by
  intro j
  induction j with
  | zero => intro _; exact hw
  | succ j ih =>
    intro hj
    have hs : sepB t (A.length + j) = false := by
      unfold sepB
      have e1 : A.length + j ≠ t.size := by rw [size_toL, h]; simp; omega
      have e2 : bAt t (A.length + j) ≠ 32 := by
        rw [bAt_toL, h, List.getD_eq_getElem?_getD, List.getElem?_append_right (by omega), Nat.add_sub_cancel_left, List.getElem?_append_left (by omega), List.getElem?_eq_getElem (by omega)]
        have := hb (x[j]) (List.getElem_mem (by omega))
        simp only [Option.getD_some]
        omega
      simp [e1, e2]
    rw [← Nat.add_assoc, wst_no hs]
    exact ih (by omega)
theorem seg_end {t : ByteArray} {A x R : List UInt8} {o : List ByteArray} (h : t.data.toList = A ++ (x ++ R)) (hx : WordL x) (hw : wst t A.length = (o, A.length)) (hR : R = [] ∨ ∃ r, R = 32 :: r) :
    wst t (A.length + x.length + 1) = (o ++ [⟨x.toArray⟩], A.length + x.length + 1) := by
  have hr := seg_run h hx.2 hw x.length (Nat.le_refl _)
  have hl : 0 < x.length := List.length_pos_iff.2 hx.1
  have hs : sepB t (A.length + x.length) = true := by
    unfold sepB
    rcases hR with rfl | ⟨r, rfl⟩
    · have e1 : A.length + x.length = t.size := by rw [size_toL, h]; simp
      rw [decide_eq_true e1]; rfl
    · have e2 : bAt t (A.length + x.length) = 32 := by
        rw [bAt_toL, h, ← List.append_assoc, List.getD_eq_getElem?_getD, List.getElem?_append_right (by simp), List.length_append, Nat.sub_self]
        rfl
      rw [e2]; simp
  rw [wst_push hs (by rw [hr]; simp; omega), hr]
  simp only
  rw [ext_mid h]
theorem words_join (t : ByteArray) : ∀ (ws : List (List UInt8)) (A : List UInt8) (o : List ByteArray), ws ≠ [] → (∀ x ∈ ws, WordL x) → t.data.toList = A ++ joinW ws → wst t A.length = (o, A.length) → wordsL t = o ++ ws.map (fun x => ⟨x.toArray⟩) := by
  intro ws
  induction ws with
  | nil => intro A o h; exact absurd rfl h
  | cons x ws ih =>
    intro A o _ hw hA hst
    cases ws with
    | nil =>
      have h : t.data.toList = A ++ (x ++ []) := by rw [hA]; simp [joinW]
      have e := seg_end h (hw x (by simp)) hst (.inl rfl)
      have hs : t.size = A.length + x.length := by rw [size_toL, h]; simp
      unfold wordsL
      rw [hs, e]
      rfl
    | cons y ws =>
      have h : t.data.toList = A ++ (x ++ 32 :: joinW (y :: ws)) := by rw [hA]; simp [joinW]
      have e := seg_end h (hw x (by simp)) hst (.inr ⟨_, rfl⟩)
      have h2 : t.data.toList = (A ++ x ++ [32]) ++ joinW (y :: ws) := by rw [h]; simp
      have := ih (A ++ x ++ [32]) (o ++ [⟨x.toArray⟩]) (by simp) (fun z hz => hw z (List.mem_cons_of_mem _ hz)) h2 (by
        have : (A ++ x ++ [32]).length = A.length + x.length + 1 := by simp; omega
        rw [this]; exact e)
      rw [this]
      simp
theorem words_of {t : ByteArray} {ws : List (List UInt8)} (h0 : ws ≠ []) (h : ∀ x ∈ ws, WordL x) (ht : t.data.toList = joinW ws) : wordsL t = ws.map (fun x => ⟨x.toArray⟩) := by
  have := words_join t ws [] [] h0 h (by simpa using ht) rfl
  simpa using this
theorem iB_hit : ∀ (x R : List UInt8), (∀ b ∈ x, b.toNat ≠ 32) → Lib.indexByte (x ++ 32 :: R) 32 = x.length := by
  intro x
  induction x with
  | nil => intro R _; rfl
  | cons b x ih =>
    intro R h
    have hb : (b == 32) = false := by
      rw [beq_eq_false_iff_ne]
      intro e
      exact h b (by simp) (by rw [e]; rfl)
    have hi := ih R (fun c hc => h c (List.mem_cons_of_mem _ hc))
    show (if b == 32 then (0 : Int) else if Lib.indexByte (x ++ 32 :: R) 32 == -1 then -1 else Lib.indexByte (x ++ 32 :: R) 32 + 1) = _
    rw [hb, hi]
    have h2 : (((x.length : Nat) : Int) == -1) = false := by rw [beq_eq_false_iff_ne]; omega
    rw [h2]
    simp
theorem iB_miss : ∀ (x : List UInt8), (∀ b ∈ x, b.toNat ≠ 32) → Lib.indexByte x 32 = -1 := by
  intro x
  induction x with
  | nil => intro _; rfl
  | cons b x ih =>
    intro h
    have hb : (b == 32) = false := by
      rw [beq_eq_false_iff_ne]
      intro e
      exact h b (by simp) (by rw [e]; rfl)
    have hi := ih (fun c hc => h c (List.mem_cons_of_mem _ hc))
    show (if b == 32 then (0 : Int) else if Lib.indexByte x 32 == -1 then -1 else Lib.indexByte x 32 + 1) = _
    rw [hb, hi]
    rfl
theorem split_join : ∀ (ws : List (List UInt8)), ws ≠ [] → (∀ x ∈ ws, ∀ b ∈ x, b.toNat ≠ 32) → Lib.splitK [32] 0 (Lib.count (joinW ws) [32]) (joinW ws) = ws := by
  intro ws
  induction ws with
  | nil => intro h; exact absurd rfl h
  | cons x ws ih =>
    intro _ hw
    cases ws with
    | nil =>
      have hi : Lib.index x [32] = -1 := by rw [Lib.index_one]; exact iB_miss x (hw x (by simp))
      show Lib.splitK [32] 0 (Lib.count x [32]) x = [x]
      rw [Lib.count_miss hi]
      rfl
    | cons y ws =>
      have hi : Lib.index (joinW (x :: y :: ws)) [32] = (x.length : Nat) := by rw [Lib.index_one]; exact iB_hit x _ (hw x (by simp))
      have hd : (joinW (x :: y :: ws)).drop (x.length + [(32 : UInt8)].length) = joinW (y :: ws) := by
        show (x ++ 32 :: joinW (y :: ws)).drop (x.length + 1) = _
        rw [List.drop_append]
        simp
      have ht : (joinW (x :: y :: ws)).take (x.length + 0) = x := by
        show (x ++ 32 :: joinW (y :: ws)).take (x.length + 0) = _
        simp
      rw [Lib.count_hit (by simp) hi, hd, Nat.add_comm 1]
      unfold Lib.splitK
      rw [hi]
      have hne : (((x.length : Nat) : Int) == -1) = false := by rw [beq_eq_false_iff_ne]; omega
      rw [hne]
      simp only [Bool.false_eq_true, if_false, Int.toNat_natCast]
      rw [hd, ht, ih (by simp) (fun z hz => hw z (List.mem_cons_of_mem _ hz))]
theorem mk_back (s : ByteArray) : (⟨s.data.toList.toArray⟩ : ByteArray) = s := by
  obtain ⟨⟨l⟩⟩ := s; rfl
theorem split_of {t : ByteArray} {ws : List (List UInt8)} (h0 : ws ≠ []) (h : ∀ x ∈ ws, WordL x) (ht : t.data.toList = joinW ws) : splT t = ws.map (fun x => ⟨x.toArray⟩) := by
  have e := Lib.splitB_data ⟨#[32]⟩ 0 (Lib.countB t ⟨#[32]⟩) t
  have e2 : Lib.countB t ⟨#[32]⟩ = Lib.count (joinW ws) [32] := by
    show Lib.count t.data.toList [32] = _
    rw [ht]
  have e3 : Lib.splitK [32] 0 (Lib.countB t ⟨#[32]⟩) t.data.toList = ws := by rw [e2, ht]; exact split_join ws h0 (fun x hx => (h x hx).2)
  have e4 : (splT t).map (·.data.toList) = ws := e.trans e3
  rw [← e4, List.map_map]
  have : ((fun x : List UInt8 => (⟨x.toArray⟩ : ByteArray)) ∘ (·.data.toList)) = id := by funext s; exact mk_back s
  rw [this, List.map_id]
end Go.Proofs.YtiiaehajcomfaaaDoor.Sha
