/- The writer's texts. -/
import Derived.Test.YtafbdjcoimopfaaWrB
namespace Go.Proofs.Ytafbdjcoimopfaa
open Go.ChangeShapes Go.WideShapes Go.ChangeAt Go.RowKit
set_option linter.unusedVariables false

set_option maxRecDepth 100000 in
set_option maxHeartbeats 1000000 in
theorem texts_any (b : Nat) (v : Value) (xs : List Int) (ss : List ByteArray) (L off cap : Nat) (w : World) (h : Wr w b v xs) (hL : L < w.heap.size) (hLb : L ≠ b) (hLv : v.ownBlock ≠ some L)
    (hc : ∀ i, i < ss.length → w.cell? ⟨L, off + i, none⟩ = some (.string (ss.getD i ByteArray.empty))) (hr : ∀ i, (ss.getD i ByteArray.empty).size ≤ 255) (hlen : sizes ss ≤ 60000) (hxl : xs.length ≤ 10000) (hsl : ss.length ≤ 4096) :
    Calls Try.prog 133 #[.pointer (some ⟨b, 0, none⟩), .slice (some ⟨L, off, none⟩) ss.length cap] w fun e w' => e = .returned (.tuple #[]) ∧ ∃ v', Wr w' b v' (xs ++ textsL ss) ∧ Touch (WT b v) w w' ∧ Lies v v' w.heap.size := by
  obtain ⟨i0, hi, hz0, hz1, hz2⟩ := info_parts info5
  have HW := hide h
  have HC := hide hc
  have HR := hide hr
  clear h hc hr
  go_enter Try.func133, Try.ntmps133
  go_wp2_with fail
  go_loopw [5, 8] (fun _ i wr => ∃ (k : Nat) (u : Value) (ys : List Int), k ≤ ss.length ∧ i = .int .i64 k ∧ Wr wr b u ys ∧ ys ++ textsL (ss.drop k) = xs ++ textsL ss ∧ Touch (WT b v) w wr ∧ Lies v u w.heap.size) (fun _ i _ => ss.length - (intOf i).toNat)
  case atStart => exact ⟨0, v, xs, Nat.zero_le _, rfl, unhide HW, rfl, Touch.refl _ _, Lies.refl _ _⟩
  case round =>
    obtain ⟨k, u, ys, hk, rfl, hW, hE, hT, hLi⟩ := hrel
    by_cases hlt : k < ss.length
    · have hs1 : wr.cell? ⟨L, off + k, none⟩ = some (.string (ss.getD k ByteArray.empty)) := by
        rw [hT.cell (p := ⟨L, off + k, none⟩) hL (fun hx => by rcases hx with h1 | h1; exact hLb h1; exact hLv h1)]
        exact unhide HC k hlt
      have hr1 := unhide HR k
      have hk0 : (0 : Int) ≤ (k : Int) := by omega
      have hk1 : (k : Int) < (ss.length : Int) := by omega
      have hyl : ys.length ≤ 70000 := by
        have e := congrArg List.length hE
        rw [List.length_append, List.length_append, textsL_len ss] at e
        omega
      have HD := hide (textsL_drop ss k hlt)
      have HR2 := hide (And.intro hW (And.intro hE (And.intro hT hLi)))
      have hbl := hW.lt
      clear hW hE hT hLi
      generalize ss.getD k ByteArray.empty = s at *
      go_wp2_with fail
      refine (numbers_new1 b 1 1 rfl u ys s.size wr (unhide HR2).1 _ rfl (by omega) (by omega) (by omega) hyl).mono ?_
      rintro e w2 ⟨rfl, v2, hW2, hT2, hL2⟩
      obtain ⟨y2, hy2⟩ : ∃ y2, y2 = ys ++ encN (s.size : Int) 1 := ⟨_, rfl⟩
      rw [← hy2] at hW2
      have hcell := hW2.1
      have hfr := hW2.2.1
      have hb2 := hW2.2.2.1
      have hne : some b ≠ v2.ownBlock := fun e => by have := (hW2.row b e.symm).1; omega
      have HW2 := hide hW2
      have HN := hide hne
      have hl2 : y2.length ≤ 70001 := by rw [hy2, List.length_append, encN_len]; omega
      have hl3 : 0 < y2.length := by rw [hy2, List.length_append, encN_len]; omega
      have HT2 := hide ((unhide HR2).2.2.1.wr (unhide HR2).2.2.2 hT2)
      have HL2 := hide ((unhide HR2).2.2.2.trans hL2 (unhide HR2).2.2.1.size)
      have he : encN (s.size : Int) 1 = [(s.size : Int)] := by simp [encN]; omega
      have HE2 := hide he
      have HY := hide hy2
      clear hW2 hT2 hL2 hne he hy2
      go_wp2_with (at_builtin; refine wpList_append_str _ rfl _ _ _ _ rfl (b + 1) 5 i0 Try.underlying143 Try.underlying9 hi hz0 hz1 hz2 v2 _ _ rfl (unhide HW2).2.2.2.1 s rfl (by omega) (by omega) (by omega) ?_; intro gg capg w3 hown3 hgrow hat; have HAT := hide hat; clear hat; have hc3 : w3.cell? ⟨b, 0, none⟩ = some v2 := (hgrow.cell_far ⟨b, 0, none⟩ hb2 (unhide HN)).trans hcell; have hf3 : w3.frozen? ⟨b, 0, none⟩ = false := (hgrow.frozen_far ⟨b, 0, none⟩ hb2 (unhide HN)).trans hfr)
      have R := hide ((unhide HW2).appended (ys := bytesI s) (by rw [List.map_append, ← strCells_eq]; exact hown3) hgrow (by
        rcases unhide HAT with e | e
        · left; rw [e]; rfl
        · right; rw [e]; rfl) (bytesI_range s))
      clear hown3 hgrow HAT hc3 hf3
      go_roundw
      case rel =>
        refine ⟨k + 1, _, _, by omega, by go_num, (unhide R).1, ?_, (unhide HT2).wr (unhide HL2) (unhide R).2.1, (unhide HL2).trans (unhide R).2.2 (unhide HT2).size⟩
        rw [← (unhide HR2).2.1, unhide HD, unhide HY, unhide HE2]; simp
      case measure => simp [intOf]; omega
    · obtain rfl : k = ss.length := by omega
      have R := hide (And.intro hW (And.intro hE (And.intro hT hLi)))
      clear hW hE hT hLi
      go_wp2_with fail
      go_end0
      refine ⟨rfl, u, ?_, (unhide R).2.2.1, (unhide R).2.2.2⟩
      have e := (unhide R).2.1
      rw [List.drop_length] at e
      simp only [textsL, List.append_nil] at e
      rw [← e]; exact (unhide R).1
/-- Texts in a list that was laid just now: one, two. -/
theorem texts_new1 (b : Nat) (v : Value) (xs : List Int) (s : ByteArray) (w : World) (h : Wr w b v xs) (Lb : Nat) (hLb : w.heap.size = Lb) (h1 : s.size ≤ 255) (hxl : xs.length ≤ 10000) :
    Calls Try.prog 133 #[.pointer (some ⟨b, 0, none⟩), .slice (some ⟨Lb, 0, none⟩) 1 1] (w.alloc (.cells #[.string s] 9)) fun e w' => e = .returned (.tuple #[]) ∧ ∃ v', Wr w' b v' (xs ++ textsL [s]) ∧ Touch (WT b v) w w' ∧ Lies v v' w.heap.size := by
  subst hLb
  refine (texts_any b v xs [s] w.heap.size 0 1 _ (h.alloc _) (by simp) (by have := h.lt; omega) (fun e => by have := (h.row _ e).2; omega) (fun i hi => ?_) (fun i => ?_) (by simp [sizes]; omega) hxl (by simp)).mono ?_
  · have hi0 : i = 0 := by simpa using hi
    subst hi0
    rw [World.cell?_alloc_at _ _ _ _ rfl]; rfl
  · cases i with
    | zero => simpa using h1
    | succ i => simp
  · rintro e w' ⟨rfl, v', hW, hT, hL⟩
    refine ⟨rfl, v', hW, ((Touch.refl (WT b v) w).alloc _).trans hT (fun _ _ h => h), fun k hk => ?_⟩
    rcases hL k hk with e | e
    · exact .inl e
    · right; simp at e; omega
theorem texts_new2 (b : Nat) (v : Value) (xs : List Int) (s s2 : ByteArray) (w : World) (h : Wr w b v xs) (Lb : Nat) (hLb : w.heap.size = Lb) (h1 : s.size ≤ 255) (h2 : s2.size ≤ 255) (hxl : xs.length ≤ 10000) :
    Calls Try.prog 133 #[.pointer (some ⟨b, 0, none⟩), .slice (some ⟨Lb, 0, none⟩) 2 2] (w.alloc (.cells #[.string s, .string s2] 9)) fun e w' => e = .returned (.tuple #[]) ∧ ∃ v', Wr w' b v' (xs ++ textsL [s, s2]) ∧ Touch (WT b v) w w' ∧ Lies v v' w.heap.size := by
  subst hLb
  refine (texts_any b v xs [s, s2] w.heap.size 0 2 _ (h.alloc _) (by simp) (by have := h.lt; omega) (fun e => by have := (h.row _ e).2; omega) (fun i hi => ?_) (fun i => ?_) (by simp [sizes]; omega) hxl (by simp)).mono ?_
  · rcases (show i = 0 ∨ i = 1 by simp at hi; omega) with rfl | rfl
    · rw [World.cell?_alloc_at _ _ _ _ rfl]; rfl
    · rw [World.cell?_alloc_at _ _ _ _ rfl]; rfl
  · cases i with
    | zero => simpa using h1
    | succ i => cases i with
      | zero => simpa using h2
      | succ i => simp
  · rintro e w' ⟨rfl, v', hW, hT, hL⟩
    refine ⟨rfl, v', hW, ((Touch.refl (WT b v) w).alloc _).trans hT (fun _ _ h => h), fun k hk => ?_⟩
    rcases hL k hk with e | e
    · exact .inl e
    · right; simp at e; omega
end Go.Proofs.Ytafbdjcoimopfaa
