/- The specification's maps: l07Leaf, l07Empty, l07Count, spec.MapOK. -/
import Derived.Test.YtnajpeaieeaflaaDoorBrM
namespace Go.Proofs.YtnajpeaieeaflaaDoor.Sha
open Go.ChangeShapes Go.WideShapes Go.ChangeAt Go.RowKit
set_option linter.unusedVariables false
set_option linter.unusedSimpArgs false

def Bits01 (pl : List Int) : Prop := ∀ x ∈ pl, x = 48 ∨ x = 49
theorem bitL_01 (h : ByteArray) : ∀ n, Bits01 (bitL h n)
  | 0 => fun x hx => by simp [bitL] at hx
  | n + 1 => fun x hx => by
    rw [bitL_succ, List.mem_append] at hx
    rcases hx with hx | hx
    · exact bitL_01 h n x hx
    · simp at hx
      rcases bitN_01 h n with e | e <;> omega
theorem Bits01.push {l : List Int} {x : Int} (h : Bits01 l) (hx : x = 48 ∨ x = 49) : Bits01 (l ++ [x]) := fun y hy => by
  rw [List.mem_append] at hy
  rcases hy with hy | hy
  · exact h y hy
  · simp at hy; rw [hy]; exact hx
theorem str01 : ∀ {l l2 : List Int}, Bits01 l → Bits01 l2 → strOfNums l = strOfNums l2 → l = l2 := by
  have key : ∀ {l l2 : List Int}, Bits01 l → Bits01 l2 → (l.map fun n => UInt8.ofNat n.toNat) = (l2.map fun n => UInt8.ofNat n.toNat) → l = l2 := by
    intro l
    induction l with
    | nil => intro l2 _ _ h; cases l2 with | nil => rfl | cons => simp at h
    | cons x r ih =>
      intro l2 h1 h2 h
      cases l2 with
      | nil => simp at h
      | cons y s =>
        simp only [List.map_cons, List.cons.injEq] at h
        have e := ih (fun z hz => h1 z (List.mem_cons_of_mem _ hz)) (fun z hz => h2 z (List.mem_cons_of_mem _ hz)) h.2
        have hx := h1 x (List.mem_cons_self ..)
        have hy := h2 y (List.mem_cons_self ..)
        rw [e]
        rcases hx with rfl | rfl <;> rcases hy with rfl | rfl
        · rfl
        · exact absurd h.1 (by decide)
        · exact absurd h.1 (by decide)
        · rfl
  intro l l2 h1 h2 h
  exact key h1 h2 (by have := congrArg (fun s : ByteArray => s.data.toList) h; exact this)
theorem str_take (l : List Int) (n : Nat) : (strOfNums l).extract 0 n = strOfNums (l.take n) := by
  apply ByteArray.ext
  rw [ByteArray.data_extract]
  unfold strOfNums
  apply Array.toList_inj.1
  simp [List.map_take]
theorem str_app (l l2 : List Int) : strOfNums l ++ strOfNums l2 = strOfNums (l ++ l2) := by
  apply ByteArray.ext
  rw [ByteArray.data_append]
  unfold strOfNums
  apply Array.toList_inj.1
  simp
theorem bitL_take (h : ByteArray) (n : Nat) : ∀ m, n ≤ m → (bitL h m).take n = bitL h n
  | 0, hm => by obtain rfl : n = 0 := by omega
                rfl
  | m + 1, hm => by
    rcases Nat.lt_or_ge n (m + 1) with e | e
    · rw [bitL_succ, List.take_append_of_le_length (by rw [bitL_len]; omega)]
      exact bitL_take h n m (by omega)
    · obtain rfl : n = m + 1 := by omega
      rw [List.take_of_length_le (by rw [bitL_len]; omega)]
theorem lm_leaf (b : Br) (h : b.kids = []) : ∀ m, lm m b = b
  | 0 => rfl
  | m + 1 => by unfold lm; rw [h]
theorem lm_add : ∀ (i m : Nat) (b : Br), lm (i + m) b = lm m (lm i b)
  | 0, m, b => by rw [Nat.zero_add]; rfl
  | i + 1, m, b => by
    rw [show i + 1 + m = (i + m) + 1 by omega]
    cases hk : b.kids with
    | nil => rw [lm_leaf b hk, lm_leaf b hk, lm_leaf b hk]
    | cons c r =>
      have e1 : lm (i + m + 1) b = lm (i + m) c := by conv => lhs; unfold lm; rw [hk]
      have e2 : lm (i + 1) b = lm i c := by conv => lhs; unfold lm; rw [hk]
      rw [e1, e2]; exact lm_add i m c
theorem lm_next (i : Nat) (b c : Br) (r : List Br) (h : (lm i b).kids = c :: r) : lm (i + 1) b = c := by
  rw [lm_add]
  show lm 1 (lm i b) = c
  unfold lm
  rw [h]
  rfl
theorem lm_stop (i n : Nat) (b : Br) (hi : i ≤ n) (h : (lm i b).kids = []) : lm n b = lm i b := by
  obtain ⟨m, rfl⟩ : ∃ m, n = i + m := ⟨n - i, by omega⟩
  rw [lm_add]; exact lm_leaf _ h m
set_option maxRecDepth 100000 in
theorem l07Leaf_any (k v : ByteArray) (a : Int) (sa : Option Addr) (n cap : Nat) (w : World) (hn : n ≤ maxLen) :
    Calls Tryd.prog 60 #[.agg #[.string k, .string v, .int .i64 a, .slice sa n cap]] w fun e w' => e = .returned (.bool (decide (n = 0))) ∧ Below w.heap.size w w' := by
  have B0 := hide ((Below.refl w.heap.size w).alloc (Nat.le_refl _) (.cells #[.string k, .string v, .int .i64 a, .slice sa n cap] 25))
  unfold maxLen at hn
  by_cases h : n = 0
  · have H := hide (show decide (n = 0) = true from decide_eq_true h)
    have hb : ((n : Int) == 0) = true := by simpa using h
    clear h
    go_enter Tryd.func60, Tryd.ntmps60
    go_wp2_with fail
    go_ret
    exact ⟨ret_bool (unhide H).symm, unhide B0⟩
  · have H := hide (show decide (n = 0) = false from decide_eq_false h)
    have hb : ((n : Int) == 0) = false := by rw [beq_eq_false_iff_ne]; omega
    clear h
    go_enter Tryd.func60, Tryd.ntmps60
    go_wp2_with fail
    go_ret
    exact ⟨ret_bool (unhide H).symm, unhide B0⟩
set_option maxRecDepth 100000 in
theorem l07Empty_any (k v : ByteArray) (a : Int) (l : List Br) (sa : Option Addr) (cap : Nat) (w : World) (hn : l.length ≤ maxLen) :
    Calls Tryd.prog 58 #[.agg #[.string k, .string v, .int .i64 a, .slice sa l.length cap]] w fun e w' => e = .returned (.bool (emptyBr (.mk k v a l))) ∧ Below w.heap.size w w' := by
  have B0 := hide ((Below.refl w.heap.size w).alloc (Nat.le_refl _) (.cells #[.string k, .string v, .int .i64 a, .slice sa l.length cap] 25))
  unfold maxLen at hn
  have HE := hide (empty_iff k v a l)
  generalize emptyBr (.mk k v a l) = eb at *
  have HF : Hid (¬ (k = ⟨#[]⟩ ∧ v = ⟨#[]⟩ ∧ a = 0 ∧ l.length = 0) → eb = false) := hide (fun h => by cases eb; rfl; exact absurd ((unhide HE).1 rfl) h)
  by_cases h1 : k = ⟨#[]⟩
  case neg =>
    have H := hide (unhide HF (fun h => h1 h.1))
    have hkb := ne_empty h1
    clear h1
    go_enter Tryd.func58, Tryd.ntmps58
    go_wp2_with fail
    go_ret
    exact ⟨ret_bool (unhide H).symm, unhide B0⟩
  have hkb : k.toList.isEmpty = true := emptyB_iff.2 (by rw [h1]; rfl)
  by_cases h2 : v = ⟨#[]⟩
  case neg =>
    have H := hide (unhide HF (fun h => h2 h.2.1))
    have hvb := ne_empty h2
    clear h1 h2
    go_enter Tryd.func58, Tryd.ntmps58
    go_wp2_with fail
    go_ret
    exact ⟨ret_bool (unhide H).symm, unhide B0⟩
  have hvb : v.toList.isEmpty = true := emptyB_iff.2 (by rw [h2]; rfl)
  by_cases h3 : a = 0
  case neg =>
    have H := hide (unhide HF (fun h => h3 h.2.2.1))
    have hab : (a == 0) = false := by simpa using h3
    clear h1 h2 h3
    go_enter Tryd.func58, Tryd.ntmps58
    go_wp2_with fail
    go_ret
    exact ⟨ret_bool (unhide H).symm, unhide B0⟩
  have hab : (a == 0) = true := by simpa using h3
  by_cases h4 : l.length = 0
  · have H := hide ((unhide HE).2 ⟨h1, h2, h3, h4⟩)
    have hlb : ((l.length : Int) == 0) = true := by simpa using h4
    clear h1 h2 h3 h4
    go_enter Tryd.func58, Tryd.ntmps58
    go_wp2_with fail
    go_ret
    exact ⟨ret_bool (unhide H).symm, unhide B0⟩
  · have H := hide (unhide HF (fun h => h4 h.2.2.2))
    have hlb : ((l.length : Int) == 0) = false := by rw [beq_eq_false_iff_ne]; omega
    clear h1 h2 h3 h4
    go_enter Tryd.func58, Tryd.ntmps58
    go_wp2_with fail
    go_ret
    exact ⟨ret_bool (unhide H).symm, unhide B0⟩
end Go.Proofs.YtnajpeaieeaflaaDoor.Sha
