/- Rows of words in memory; a word out of four bytes; the schedule. -/
import Derived.Test.YtnajpeaieeaflaaDoorShaW
import Derived.Test.YtnajpeaieeaflaaDoorBytes
import Derived.StillTailTactics
import Derived.Deep.MidRow
namespace Go.Proofs.YtnajpeaieeaflaaDoor.Sha
open Go.ChangeShapes Go.WideShapes Go.ChangeAt Go.RowKit
set_option linter.unusedVariables false

/-- The first n cells of block b hold the words f, and may be written. -/
def Row32 (w : World) (b n : Nat) (f : Nat → Nat) : Prop := ∀ j, j < n → w.cell? ⟨b, j, none⟩ = some (.int .u32 (f j)) ∧ w.frozen? ⟨b, j, none⟩ = false
theorem Row32.congr {w : World} {b n : Nat} {f g : Nat → Nat} (h : Row32 w b n f) (e : ∀ j, j < n → f j = g j) : Row32 w b n g := fun j hj => by rw [← e j hj]; exact h j hj
theorem Row32.set {w : World} {b n : Nat} {f : Nat → Nat} (h : Row32 w b n f) (k x : Nat) : Row32 (w.setCell ⟨b, k, none⟩ (.int .u32 x)) b n (fun j => if j = k then x else f j) := by
  intro j hj
  refine ⟨?_, by rw [World.frozen?_setCell]; exact (h j hj).2⟩
  by_cases e : j = k
  · subst e; dsimp only; rw [if_pos rfl]; exact World.cell?_setCell_same w _ _ (h j hj).1
  · dsimp only; rw [if_neg e, World.cell?_setCell_other w _ _ _ (fun h => e (by simpa using (congrArg Addr.off h).symm))]
    exact (h j hj).1
theorem Row32.other {w : World} {b n : Nat} {f : Nat → Nat} (h : Row32 w b n f) {a : Addr} (ha : a.block ≠ b) (v : Value) : Row32 (w.setCell a v) b n f := by
  intro j hj
  refine ⟨?_, by rw [World.frozen?_setCell]; exact (h j hj).2⟩
  rw [World.cell?_setCell_other w _ _ _ (fun h => ha (by rw [h]))]
  exact (h j hj).1
theorem Row32.drewN {w : World} {b n : Nat} {f : Nat → Nat} (h : Row32 w b n f) (q : Nat) : Row32 (w.drewN q) b n f := h
theorem Row32.below {w w' : World} {b n B : Nat} {f : Nat → Nat} (h : Row32 w b n f) (hb : Below B w w') (hB : b < B) : Row32 w' b n f := fun j hj => by
  rw [hb.cell (p := ⟨b, j, none⟩) hB, hb.frozen (p := ⟨b, j, none⟩) hB]; exact h j hj
def cells32 (n : Nat) (f : Nat → Nat) : List Value := (List.range n).map fun j => Value.int .u32 (f j)
theorem cells32_len (n : Nat) (f : Nat → Nat) : (cells32 n f).length = n := by simp [cells32]
theorem cells32_one (n : Nat) (f : Nat → Nat) : ∀ v ∈ cells32 n f, v.oneCell' = true := by
  intro v hv
  simp only [cells32, List.mem_map] at hv
  obtain ⟨j, _, rfl⟩ := hv
  rfl
theorem Row32.range {w : World} {b n : Nat} {f : Nat → Nat} (h : Row32 w b n f) : w.rangeAt b 0 (cells32 n f) := by
  intro j v hv
  have hj : j < n := by have := (List.getElem?_eq_some_iff.1 hv).1; rwa [cells32_len] at this
  rw [Nat.zero_add, (h j hj).1, ← hv]
  simp [cells32, hj]
theorem Row32.there {w : World} {b n : Nat} {f : Nat → Nat} (h : Row32 w b n f) : w.there b 0 n := by
  intro j hj
  rw [Nat.zero_add, (h j hj).1]
  exact ⟨rfl, (h j hj).2⟩
theorem Row32.stored {w : World} {b n : Nat} {f g : Nat → Nat} (h : Row32 w b n f) : Row32 (w.setCells b 0 (cells32 n g)) b n g := by
  intro j hj
  have ht : w.there b 0 (cells32 n g).length := by rw [cells32_len]; exact h.there
  have hr := World.rangeAt_setCells_same w b 0 (cells32 n g) ht j (.int .u32 (g j)) (by simp [cells32, hj])
  rw [Nat.zero_add] at hr
  exact ⟨hr, by rw [World.frozen?_setCells]; exact (h j hj).2⟩
theorem Row32.apart {w : World} {b n : Nat} {f : Nat → Nat} (h : Row32 w b n f) {b' o : Nat} (hb : b ≠ b') (vs : List Value) : Row32 (w.setCells b' o vs) b n f := by
  intro j hj
  refine ⟨?_, by rw [World.frozen?_setCells]; exact (h j hj).2⟩
  rw [World.cell?_setCells_out b' vs o w ⟨b, j, none⟩ (fun e => absurd e hb)]
  exact (h j hj).1
theorem below_setCells {B b : Nat} (hB : B ≤ b) : ∀ (vs : List Value) (o : Nat) {a w : World}, Below B a w → Below B a (w.setCells b o vs)
  | [], _, _, _, h => h
  | v :: r, o, a, w, h => by rw [World.setCells]; exact below_setCells hB r (o + 1) (h.setCell hB _)

theorem results_cell {fn : Func} {p : Tmp} {ty : TypeId} (h : fn.results = #[.cell p ty]) {tmps : Array Value} {P : Program} {w : World} {a : Addr} {v : Value} (hp : tmps.getD p undef = .pointer (some a)) (hl : (loadVar ty a).run P w = .ok v w) :
    (results fn tmps).run P w = .ok v w := by
  have hp' : tmps[p]?.getD undef = .pointer (some a) := by rw [← hp]; simp
  simp only [results, h]
  simp [hp', asAddr, hl]
def wd (c0 c1 c2 c3 : Int) : Nat := c0.toNat * 16777216 ||| c1.toNat * 65536 ||| c2.toNat * 256 ||| c3.toNat
theorem wd_lt {c0 c1 c2 c3 : Int} (g0 : c0 ≤ 255) (g1 : c1 ≤ 255) (g2 : c2 ≤ 255) (g3 : c3 ≤ 255) : wd c0 c1 c2 c3 < 4294967296 :=
  or_lt (or_lt (or_lt (by omega) (by omega)) (by omega)) (by omega)
theorem wwd {c0 c1 c2 c3 : Int} (l0 : 0 ≤ c0) (g0 : c0 ≤ 255) (l1 : 0 ≤ c1) (g1 : c1 ≤ 255) (l2 : 0 ≤ c2) (g2 : c2 ≤ 255) (l3 : 0 ≤ c3) (g3 : c3 ≤ 255) :
    bits BinOp.or IntKind.u32 (bits BinOp.or IntKind.u32 (bits BinOp.or IntKind.u32 (c0 * 16777216) (c1 * 65536)) (c2 * 256)) c3 = ((wd c0 c1 c2 c3 : Nat) : Int) := by
  obtain ⟨a, rfl⟩ := Int.eq_ofNat_of_zero_le l0
  obtain ⟨b, rfl⟩ := Int.eq_ofNat_of_zero_le l1
  obtain ⟨c, rfl⟩ := Int.eq_ofNat_of_zero_le l2
  obtain ⟨d, rfl⟩ := Int.eq_ofNat_of_zero_le l3
  have e1 : (a : Int) * 16777216 = ((a * 16777216 : Nat) : Int) := by omega
  have e2 : (b : Int) * 65536 = ((b * 65536 : Nat) : Int) := by omega
  have e3 : (c : Int) * 256 = ((c * 256 : Nat) : Int) := by omega
  rw [e1, e2, e3, wor (by omega) (by omega), wor (or_lt (by omega) (by omega)) (by omega), wor (or_lt (or_lt (by omega) (by omega)) (by omega)) (by omega)]
  rfl

set_option maxHeartbeats 400000 in
theorem wordAt_any (b off len cap at_ : Nat) (c0 c1 c2 c3 : Int) (w : World) (hat : at_ + 4 ≤ len) (hlen : len ≤ 1048576)
    (h0 : w.cell? ⟨b, off + at_, none⟩ = some (.int .u8 c0)) (h1 : w.cell? ⟨b, off + (at_ + 1), none⟩ = some (.int .u8 c1)) (h2 : w.cell? ⟨b, off + (at_ + 2), none⟩ = some (.int .u8 c2)) (h3 : w.cell? ⟨b, off + (at_ + 3), none⟩ = some (.int .u8 c3))
    (l0 : 0 ≤ c0) (g0 : c0 ≤ 255) (l1 : 0 ≤ c1) (g1 : c1 ≤ 255) (l2 : 0 ≤ c2) (g2 : c2 ≤ 255) (l3 : 0 ≤ c3) (g3 : c3 ≤ 255) :
    Calls Tryd.prog 85 #[.slice (some ⟨b, off, none⟩) len cap, .int .i64 at_] w fun e w' => e = .returned (.int .u32 (wd c0 c1 c2 c3)) ∧ ∃ n, w' = w.drewN n := by
  have a0 : (0 : Int) ≤ (at_ : Int) := by omega
  have a1 : (at_ : Int) < (len : Int) := by omega
  have a2 : (at_ : Int) + 1 < (len : Int) := by omega
  have a3 : (at_ : Int) + 2 < (len : Int) := by omega
  have a4 : (at_ : Int) + 3 < (len : Int) := by omega
  have H := hide (wwd l0 g0 l1 g1 l2 g2 l3 g3)
  go_enter Tryd.func85, Tryd.ntmps85
  go_wp2_with fail
  go_quiet (fail)
  go_wp2_with fail
  go_ret
  exact ⟨ret_int (unhide H), nq, rfl⟩

/-- The schedule of a block whose bytes are B. -/
def nextW (B : Nat → Int) (L : List Nat) (n : Nat) : Nat :=
  if n < 16 then wd (B (4 * n)) (B (4 * n + 1)) (B (4 * n + 2)) (B (4 * n + 3))
  else add (add (add (L.getD (n - 16) 0) (s0 (L.getD (n - 15) 0))) (L.getD (n - 7) 0)) (s1 (L.getD (n - 2) 0))
def schedL (B : Nat → Int) : Nat → List Nat
  | 0 => []
  | n + 1 => schedL B n ++ [nextW B (schedL B n) n]
def W (B : Nat → Int) (i : Nat) : Nat := (schedL B (i + 1)).getD i 0
theorem schedL_len (B : Nat → Int) (n : Nat) : (schedL B n).length = n := by
  induction n with
  | zero => rfl
  | succ n ih => simp [schedL, ih]
theorem schedL_get (B : Nat → Int) (n i : Nat) (h : i < n) : (schedL B n).getD i 0 = W B i := by
  induction n with
  | zero => omega
  | succ n ih =>
    by_cases e : i = n
    · subst e; rfl
    · rw [← ih (by omega)]
      have hl := schedL_len B n
      rw [schedL, List.getD_eq_getElem?_getD, List.getD_eq_getElem?_getD, List.getElem?_append_left (by omega)]
theorem W_next (B : Nat → Int) (i : Nat) : W B i = nextW B (schedL B i) i := by
  unfold W
  have hl := schedL_len B i
  rw [schedL, List.getD_eq_getElem?_getD, List.getElem?_append_right (by omega), hl]
  simp
theorem W_lo (B : Nat → Int) {i : Nat} (h : i < 16) : W B i = wd (B (4 * i)) (B (4 * i + 1)) (B (4 * i + 2)) (B (4 * i + 3)) := by
  rw [W_next]; unfold nextW; rw [if_pos h]
theorem W_hi (B : Nat → Int) {i : Nat} (h : 16 ≤ i) : W B i = add (add (add (W B (i - 16)) (s0 (W B (i - 15)))) (W B (i - 7))) (s1 (W B (i - 2))) := by
  rw [W_next]; unfold nextW
  rw [if_neg (by omega), schedL_get B i _ (by omega), schedL_get B i _ (by omega), schedL_get B i _ (by omega), schedL_get B i _ (by omega)]
theorem W_lt (B : Nat → Int) (hB : ∀ i, B i ≤ 255) (i : Nat) : W B i < 4294967296 := by
  by_cases h : i < 16
  · rw [W_lo B h]; exact wd_lt (hB _) (hB _) (hB _) (hB _)
  · rw [W_hi B (by omega)]; exact add_lt _ _
def upTo (k : Nat) (f : Nat → Nat) (j : Nat) : Nat := if j < k then f j else 0
theorem upTo_step (k : Nat) (f : Nat → Nat) (j : Nat) : (if j = k then f k else upTo k f j) = upTo (k + 1) f j := by
  unfold upTo
  by_cases e : j = k
  · subst e; rw [if_pos rfl, if_pos (by omega)]
  · rw [if_neg e]
    by_cases h : j < k
    · rw [if_pos h, if_pos (by omega)]
    · rw [if_neg h, if_neg (by omega)]
theorem upTo_in {k j : Nat} (f : Nat → Nat) (h : j < k) : upTo k f j = f j := by unfold upTo; rw [if_pos h]
theorem Row32.step {w : World} {b n k : Nat} {f : Nat → Nat} (h : Row32 w b n (upTo k f)) : Row32 (w.setCell ⟨b, k, none⟩ (.int .u32 (f k))) b n (upTo (k + 1) f) :=
  (h.set k (f k)).congr fun j _ => upTo_step k f j
end Go.Proofs.YtnajpeaieeaflaaDoor.Sha
