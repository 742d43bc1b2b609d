/- The writer: a string's bytes, numbers in a list of the call's own. -/
import Derived.Test.YtfihhkhdigbmiaaGreatDoorWrN
import Derived.Test.YtfihhkhdigbmiaaGreatDoorWrS
namespace Go.Proofs.YtfihhkhdigbmiaaGreatDoor
open Go.ChangeShapes Go.WideShapes Go.ChangeAt Go.RowKit
set_option linter.unusedVariables false

/-- Each text behind a byte that tells its length. -/
def textsL : List ByteArray → List Int
  | [] => []
  | s :: r => (s.size : Int) :: (bytesI s ++ textsL r)
def sizes : List ByteArray → Nat
  | [] => 0
  | s :: r => s.size + 1 + sizes r
theorem textsL_len (l : List ByteArray) : (textsL l).length = sizes l := by
  induction l with
  | nil => rfl
  | cons s r ih => simp [textsL, sizes, bytesI_len, ih]; omega
theorem textsL_drop (l : List ByteArray) (k : Nat) (h : k < l.length) : textsL (l.drop k) = ((l.getD k ByteArray.empty).size : Int) :: (bytesI (l.getD k ByteArray.empty) ++ textsL (l.drop (k + 1))) := by
  rw [List.drop_eq_getElem_cons h, List.getD_eq_getElem?_getD, List.getElem?_eq_getElem h]; rfl

/-- One number, in a list that was laid just now. -/
theorem numbers_new1 (b m : Nat) (mi : Int) (hmi : mi = (m : Int)) (v : Value) (xs : List Int) (n : Int) (w : World) (h : Wr w b v xs) (Lb : Nat) (hLb : w.heap.size = Lb) (hm : m ≤ 4) (h0 : 0 ≤ n) (h1 : n < 4294967296) (hxl : xs.length ≤ 70000) :
    Calls Tryz.prog 89 #[.pointer (some ⟨b, 0, none⟩), .int .i64 mi, .slice (some ⟨Lb, 0, none⟩) 1 1] (w.alloc (.cells #[.int .i64 n] 3)) fun e w' => e = .returned (.tuple #[]) ∧ ∃ v', Wr w' b v' (xs ++ encN n m) ∧ Touch (WT b v) w w' ∧ Lies v v' w.heap.size := by
  subst hmi hLb
  refine (numbers_any b m v xs [n] w.heap.size 0 1 _ (h.alloc _) hm (by simp) (by have := h.lt; omega) (fun e => by have := (h.row _ e).2; omega) (fun i hi => ?_) (fun i => ?_) (by simp) hxl).mono ?_
  · have hi0 : i = 0 := by simpa using hi
    subst hi0
    rw [World.cell?_alloc_at _ _ _ _ rfl]; rfl
  · cases i with
    | zero => simp; omega
    | succ i => simp
  · rintro e w' ⟨rfl, v', hW, hT, hL⟩
    refine ⟨rfl, v', by simpa [encAll] using hW, ((Touch.refl (WT b v) w).alloc _).trans hT (fun _ _ h => h), fun k hk => ?_⟩
    rcases hL k hk with e | e
    · exact .inl e
    · right; simp at e; omega
/-- Two numbers, likewise. -/
theorem numbers_new2 (b m : Nat) (mi : Int) (hmi : mi = (m : Int)) (v : Value) (xs : List Int) (n n2 : Int) (w : World) (h : Wr w b v xs) (Lb : Nat) (hLb : w.heap.size = Lb) (hm : m ≤ 4) (h0 : 0 ≤ n) (h1 : n < 4294967296) (h02 : 0 ≤ n2) (h12 : n2 < 4294967296) (hxl : xs.length ≤ 70000) :
    Calls Tryz.prog 89 #[.pointer (some ⟨b, 0, none⟩), .int .i64 mi, .slice (some ⟨Lb, 0, none⟩) 2 2] (w.alloc (.cells #[.int .i64 n, .int .i64 n2] 3)) fun e w' => e = .returned (.tuple #[]) ∧ ∃ v', Wr w' b v' (xs ++ (encN n m ++ encN n2 m)) ∧ Touch (WT b v) w w' ∧ Lies v v' w.heap.size := by
  subst hmi hLb
  refine (numbers_any b m v xs [n, n2] w.heap.size 0 2 _ (h.alloc _) hm (by simp) (by have := h.lt; omega) (fun e => by have := (h.row _ e).2; omega) (fun i hi => ?_) (fun i => ?_) (by simp) hxl).mono ?_
  · rcases (show i = 0 ∨ i = 1 by simp at hi; omega) with rfl | rfl
    · rw [World.cell?_alloc_at _ _ _ _ rfl]; rfl
    · rw [World.cell?_alloc_at _ _ _ _ rfl]; rfl
  · cases i with
    | zero => simp; omega
    | succ i => cases i with
      | zero => simp; omega
      | succ i => simp
  · rintro e w' ⟨rfl, v', hW, hT, hL⟩
    refine ⟨rfl, v', by simpa [encAll] using hW, ((Touch.refl (WT b v) w).alloc _).trans hT (fun _ _ h => h), fun k hk => ?_⟩
    rcases hL k hk with e | e
    · exact .inl e
    · right; simp at e; omega

/-- A writer that was laid just now. -/
theorem Wr.new (w : World) (b : Nat) (hb : w.heap.size = b) (t : TypeId) : Wr (w.alloc (.cells #[.slice none 0 0] t)) b (.slice none 0 0) [] := by
  subst hb
  refine ⟨by rw [World.cell?_alloc_at _ _ _ _ rfl]; rfl, by simp, by simp, World.ownsRow_nil _ _ _ _, fun i => by simp⟩
end Go.Proofs.YtfihhkhdigbmiaaGreatDoor
