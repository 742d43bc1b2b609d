/- What the proof of the claim needs (joined by program): ShaW ShaR ShaS. -/
import Derived.Test.YtnhhnjmjodmacaaGreatDoorQaa04
import Derived.Test.YtnhhnjmjodmacaaGreatDoorQaa00
import Derived.WalkSpells
import Derived.StillTailTactics
import Derived.Deep.MidRow
namespace Go.Proofs.YtnhhnjmjodmacaaGreatDoor.Sha
set_option maxRecDepth 100000
set_option maxHeartbeats 8000000
open Go.ChangeShapes Go.WideShapes Go.ChangeAt Go.RowKit
set_option linter.unusedVariables false
theorem l01Turn_any (x n : Nat) (w : World) (hx : x < 4294967296) (h1 : 1 ≤ n) (h2 : n ≤ 31) :
  Calls Tryz.prog 138 #[.int .u32 x, .int .u64 n] w fun e w' => e = .returned (.int .u32 (rotr x n)) ∧ w' = w := by
 have H := Hd (wrotr n hx)
 go_enter Tryz.func138, Tryz.ntmps138
 go_wp2
 go_ret
 exact ⟨ret_int (uh H), rfl⟩
theorem rotl_any (x n : Nat) (w : World) (hx : x < 4294967296) (h1 : 1 ≤ n) (h2 : n ≤ 31) :
  Calls Tryz.prog 161 #[.int .u32 x, .int .i64 (-(n : Int))] w fun e w' => e = .returned (.int .u32 (rotr x n)) ∧ w' = w := by
 have H := Hd (wrotl n hx)
 have ht := wturn n h1 h2
 obtain ⟨m, rfl⟩ : ∃ m, n = 32 - m := ⟨32 - n, by omega⟩
 have e : 32 - (32 - m) = m := by omega
 rw [e] at H ht
 have hm1 : 1 ≤ m := by omega
 have hm2 : m ≤ 31 := by omega
 clear e h1 h2
 go_enter Tryz.func161, Tryz.ntmps161
 go_wp2
 go_ret
 exact ⟨ret_int (uh H), rfl⟩
theorem turnRight_any (x n : Nat) (w : World) (hx : x < 4294967296) (h1 : 1 ≤ n) (h2 : n ≤ 31) :
  Calls Tryz.prog 160 #[.int .u32 x, .int .i64 n] w fun e w' => e = .returned (.int .u32 (rotr x n)) ∧ w' = w := by
 go_enter Tryz.func160, Tryz.ntmps160
 go_wp2_with fail
 refine (rotl_any x n _ hx h1 h2).mono ?_
 rintro e w' ⟨rfl, rfl⟩
 go_wp2_with fail
 go_ret
 exact ⟨rfl, rfl⟩
theorem xor3 {a b c : Nat} (h : a < 4294967296) (h2 : b < 4294967296) (h3 : c < 4294967296) : bits BinOp.xor IntKind.u32 (bits BinOp.xor IntKind.u32 (a : Int) (b : Int)) (c : Int) = ((a ^^^ b ^^^ c : Nat) : Int) := by
 rw [wxor h h2, wxor (xor_lt h h2) h3]
theorem greatE_any (x : Nat) (w : World) (hx : x < 4294967296) :
  Calls Tryz.prog 151 #[.int .u32 x] w fun e w' => e = .returned (.int .u32 (bE x)) ∧ w' = w := by
 have H := Hd (xor3 (rotr_lt hx 6) (rotr_lt hx 11) (rotr_lt hx 25))
 go_enter Tryz.func151, Tryz.ntmps151
 go_wp2_with fail
 refine (turnRight_any x 6 _ hx (by omega) (by omega)).mono ?_
 rintro e w' ⟨rfl, rfl⟩
 go_wp2_with fail
 refine (turnRight_any x 11 _ hx (by omega) (by omega)).mono ?_
 rintro e w' ⟨rfl, rfl⟩
 go_wp2_with fail
 refine (turnRight_any x 25 _ hx (by omega) (by omega)).mono ?_
 rintro e w' ⟨rfl, rfl⟩
 go_wp2_with fail
 go_ret
 exact ⟨ret_int (uh H), rfl⟩
theorem greatA_any (x : Nat) (w : World) (hx : x < 4294967296) :
  Calls Tryz.prog 153 #[.int .u32 x] w fun e w' => e = .returned (.int .u32 (bA x)) ∧ w' = w := by
 have H := Hd (xor3 (rotr_lt hx 2) (rotr_lt hx 13) (rotr_lt hx 22))
 go_enter Tryz.func153, Tryz.ntmps153
 go_wp2_with fail
 refine (turnRight_any x 2 _ hx (by omega) (by omega)).mono ?_
 rintro e w' ⟨rfl, rfl⟩
 go_wp2_with fail
 refine (turnRight_any x 13 _ hx (by omega) (by omega)).mono ?_
 rintro e w' ⟨rfl, rfl⟩
 go_wp2_with fail
 refine (turnRight_any x 22 _ hx (by omega) (by omega)).mono ?_
 rintro e w' ⟨rfl, rfl⟩
 go_wp2_with fail
 go_ret
 exact ⟨ret_int (uh H), rfl⟩
theorem smallS_any (x : Nat) (w : World) (hx : x < 4294967296) :
  Calls Tryz.prog 156 #[.int .u32 x] w fun e w' => e = .returned (.int .u32 (s0 x)) ∧ w' = w := by
 have H := Hd (xor3 (rotr_lt hx 7) (rotr_lt hx 18) (div_lt hx 8))
 go_enter Tryz.func156, Tryz.ntmps156
 go_wp2_with fail
 refine (turnRight_any x 7 _ hx (by omega) (by omega)).mono ?_
 rintro e w' ⟨rfl, rfl⟩
 go_wp2_with fail
 refine (turnRight_any x 18 _ hx (by omega) (by omega)).mono ?_
 rintro e w' ⟨rfl, rfl⟩
 go_wp2_with fail
 go_ret
 exact ⟨ret_int (uh H), rfl⟩
theorem smallT_any (x : Nat) (w : World) (hx : x < 4294967296) :
  Calls Tryz.prog 157 #[.int .u32 x] w fun e w' => e = .returned (.int .u32 (s1 x)) ∧ w' = w := by
 have H := Hd (xor3 (rotr_lt hx 17) (rotr_lt hx 19) (div_lt hx 1024))
 go_enter Tryz.func157, Tryz.ntmps157
 go_wp2_with fail
 refine (turnRight_any x 17 _ hx (by omega) (by omega)).mono ?_
 rintro e w' ⟨rfl, rfl⟩
 go_wp2_with fail
 refine (turnRight_any x 19 _ hx (by omega) (by omega)).mono ?_
 rintro e w' ⟨rfl, rfl⟩
 go_wp2_with fail
 go_ret
 exact ⟨ret_int (uh H), rfl⟩
theorem wch {e f g : Nat} (h : e < 4294967296) (h2 : f < 4294967296) (h3 : g < 4294967296) :
  bits BinOp.or IntKind.u32 (bits BinOp.and IntKind.u32 (e : Int) (f : Int)) (bits BinOp.and IntKind.u32 (bits BinOp.xor IntKind.u32 IntKind.u32.max (e : Int)) (g : Int)) = ((ch e f g : Nat) : Int) := by
 rw [wnot h, wand h h2, wand (not_lt h) h3, wor (and_lt h) (and_lt (not_lt h))]; rfl
theorem wmaj {a b c : Nat} (h : a < 4294967296) (h2 : b < 4294967296) (h3 : c < 4294967296) :
  bits BinOp.or IntKind.u32 (bits BinOp.or IntKind.u32 (bits BinOp.and IntKind.u32 (a : Int) (b : Int)) (bits BinOp.and IntKind.u32 (a : Int) (c : Int))) (bits BinOp.and IntKind.u32 (b : Int) (c : Int)) = ((maj a b c : Nat) : Int) := by
 rw [wand h h2, wand h h3, wand h2 h3, wor (and_lt h) (and_lt h), wor (or_lt (and_lt h) (and_lt h)) (and_lt h2)]; rfl
theorem choose_any (e f g : Nat) (w : World) (h : e < 4294967296) (h2 : f < 4294967296) (h3 : g < 4294967296) :
  Calls Tryz.prog 152 #[.int .u32 e, .int .u32 f, .int .u32 g] w fun r w' => r = .returned (.int .u32 (ch e f g)) ∧ w' = w := by
 have H := Hd (wch h h2 h3)
 go_enter Tryz.func152, Tryz.ntmps152
 go_wp2
 go_ret
 exact ⟨ret_int (uh H), rfl⟩
theorem majority_any (a b c : Nat) (w : World) (h : a < 4294967296) (h2 : b < 4294967296) (h3 : c < 4294967296) :
  Calls Tryz.prog 154 #[.int .u32 a, .int .u32 b, .int .u32 c] w fun r w' => r = .returned (.int .u32 (maj a b c)) ∧ w' = w := by
 have H := Hd (wmaj h h2 h3)
 go_enter Tryz.func154, Tryz.ntmps154
 go_wp2
 go_ret
 exact ⟨ret_int (uh H), rfl⟩
def Row32 (w : World) (b n : Nat) (f : Nat → Nat) : Prop := ∀ j, j < n → w.cell? ⟨b, j, none⟩ = some (.int .u32 (f j)) ∧ w.frozen? ⟨b, j, none⟩ = false
theorem Row32.congr {w : World} {b n : Nat} {f g : Nat → Nat} (h : Row32 w b n f) (e : ∀ j, j < n → f j = g j) : Row32 w b n g := fun j hj => by rw [← e j hj]; exact h j hj
theorem Row32.set {w : World} {b n : Nat} {f : Nat → Nat} (h : Row32 w b n f) (k x : Nat) : Row32 (w.setCell ⟨b, k, none⟩ (.int .u32 x)) b n (fun j => if j = k then x else f j) := by
 intro j hj
 refine ⟨?_, by rw [World.frozen?_setCell]; exact (h j hj).2⟩
 by_cases e : j = k
 ·subst e; dsimp only; rw [if_pos rfl]; exact World.cell?_setCell_same w _ _ (h j hj).1
 ·dsimp only; rw [if_neg e, World.cell?_setCell_other w _ _ _ (fun h => e (by simpa using (congrArg Addr.off h).symm))]
  exact (h j hj).1
theorem Row32.other {w : World} {b n : Nat} {f : Nat → Nat} (h : Row32 w b n f) {a : Addr} (ha : a.block ≠ b) (v : Value) : Row32 (w.setCell a v) b n f := by
 intro j hj
 refine ⟨?_, by rw [World.frozen?_setCell]; exact (h j hj).2⟩
 rw [World.cell?_setCell_other w _ _ _ (fun h => ha (by rw [h]))]
 exact (h j hj).1
theorem Row32.drewN {w : World} {b n : Nat} {f : Nat → Nat} (h : Row32 w b n f) (q : Nat) : Row32 (w.drewN q) b n f := h
theorem Row32.below {w w' : World} {b n B : Nat} {f : Nat → Nat} (h : Row32 w b n f) (hb : Below B w w') (hB : b < B) : Row32 w' b n f := fun j hj => by
 rw [hb.cell (p := ⟨b, j, none⟩) hB, hb.frozen (p := ⟨b, j, none⟩) hB]; exact h j hj
def cells32 (n : Nat) (f : Nat → Nat) : List Value := (List.range n).map fun j => Value.int .u32 (f j)
theorem cells32_len (n : Nat) (f : Nat → Nat) : (cells32 n f).length = n := by simp [cells32]
theorem cells32_one (n : Nat) (f : Nat → Nat) : ∀ v ∈ cells32 n f, v.oneCell' = true := by
 intro v hv
 simp only [cells32, List.mem_map] at hv
 obtain ⟨j, _, rfl⟩ := hv
 rfl
theorem Row32.range {w : World} {b n : Nat} {f : Nat → Nat} (h : Row32 w b n f) : w.rangeAt b 0 (cells32 n f) := by
 intro j v hv
 have hj : j < n := by have := (List.getElem?_eq_some_iff.1 hv).1; rwa [cells32_len] at this
 rw [Nat.zero_add, (h j hj).1, ← hv]
 simp [cells32, hj]
theorem Row32.there {w : World} {b n : Nat} {f : Nat → Nat} (h : Row32 w b n f) : w.there b 0 n := by
 intro j hj
 rw [Nat.zero_add, (h j hj).1]
 exact ⟨rfl, (h j hj).2⟩
theorem Row32.stored {w : World} {b n : Nat} {f g : Nat → Nat} (h : Row32 w b n f) : Row32 (w.setCells b 0 (cells32 n g)) b n g := by
 intro j hj
 have ht : w.there b 0 (cells32 n g).length := by rw [cells32_len]; exact h.there
 have hr := World.rangeAt_setCells_same w b 0 (cells32 n g) ht j (.int .u32 (g j)) (by simp [cells32, hj])
 rw [Nat.zero_add] at hr
 exact ⟨hr, by rw [World.frozen?_setCells]; exact (h j hj).2⟩
theorem Row32.apart {w : World} {b n : Nat} {f : Nat → Nat} (h : Row32 w b n f) {b' o : Nat} (hb : b ≠ b') (vs : List Value) : Row32 (w.setCells b' o vs) b n f := by
 intro j hj
 refine ⟨?_, by rw [World.frozen?_setCells]; exact (h j hj).2⟩
 rw [World.cell?_setCells_out b' vs o w ⟨b, j, none⟩ (fun e => absurd e hb)]
 exact (h j hj).1
theorem below_setCells {B b : Nat} (hB : B ≤ b) : ∀ (vs : List Value) (o : Nat) {a w : World}, Below B a w → Below B a (w.setCells b o vs)
 | [], _, _, _, h => h
 | v :: r, o, a, w, h => by rw [World.setCells]; exact below_setCells hB r (o + 1) (h.setCell hB _)

theorem results_cell {fn : Func} {p : Tmp} {ty : TypeId} (h : fn.results = #[.cell p ty]) {tmps : Array Value} {P : Program} {w : World} {a : Addr} {v : Value} (hp : tmps.getD p undef = .pointer (some a)) (hl : (loadVar ty a).run P w = .ok v w) :
  (results fn tmps).run P w = .ok v w := by
 have hp' : tmps[p]?.getD undef = .pointer (some a) := by rw [← hp]; simp
 simp only [results, h]
 simp [hp', asAddr, hl]
def wd (c0 c1 c2 c3 : Int) : Nat := c0.toNat * 16777216 ||| c1.toNat * 65536 ||| c2.toNat * 256 ||| c3.toNat
theorem wd_lt {c0 c1 c2 c3 : Int} (g0 : c0 ≤ 255) (g1 : c1 ≤ 255) (g2 : c2 ≤ 255) (g3 : c3 ≤ 255) : wd c0 c1 c2 c3 < 4294967296 :=
 or_lt (or_lt (or_lt (by omega) (by omega)) (by omega)) (by omega)
theorem wwd {c0 c1 c2 c3 : Int} (l0 : 0 ≤ c0) (g0 : c0 ≤ 255) (l1 : 0 ≤ c1) (g1 : c1 ≤ 255) (l2 : 0 ≤ c2) (g2 : c2 ≤ 255) (l3 : 0 ≤ c3) (g3 : c3 ≤ 255) :
  bits BinOp.or IntKind.u32 (bits BinOp.or IntKind.u32 (bits BinOp.or IntKind.u32 (c0 * 16777216) (c1 * 65536)) (c2 * 256)) c3 = ((wd c0 c1 c2 c3 : Nat) : Int) := by
 obtain ⟨a, rfl⟩ := Int.eq_ofNat_of_zero_le l0
 obtain ⟨b, rfl⟩ := Int.eq_ofNat_of_zero_le l1
 obtain ⟨c, rfl⟩ := Int.eq_ofNat_of_zero_le l2
 obtain ⟨d, rfl⟩ := Int.eq_ofNat_of_zero_le l3
 have e1 : (a : Int) * 16777216 = ((a * 16777216 : Nat) : Int) := by omega
 have e2 : (b : Int) * 65536 = ((b * 65536 : Nat) : Int) := by omega
 have e3 : (c : Int) * 256 = ((c * 256 : Nat) : Int) := by omega
 rw [e1, e2, e3, wor (by omega) (by omega), wor (or_lt (by omega) (by omega)) (by omega), wor (or_lt (or_lt (by omega) (by omega)) (by omega)) (by omega)]
 rfl

theorem wordAt_any (b off len cap at_ : Nat) (c0 c1 c2 c3 : Int) (w : World) (hat : at_ + 4 ≤ len) (hlen : len ≤ 1048576)
  (h0 : w.cell? ⟨b, off + at_, none⟩ = some (.int .u8 c0)) (h1 : w.cell? ⟨b, off + (at_ + 1), none⟩ = some (.int .u8 c1)) (h2 : w.cell? ⟨b, off + (at_ + 2), none⟩ = some (.int .u8 c2)) (h3 : w.cell? ⟨b, off + (at_ + 3), none⟩ = some (.int .u8 c3))
  (l0 : 0 ≤ c0) (g0 : c0 ≤ 255) (l1 : 0 ≤ c1) (g1 : c1 ≤ 255) (l2 : 0 ≤ c2) (g2 : c2 ≤ 255) (l3 : 0 ≤ c3) (g3 : c3 ≤ 255) :
  Calls Tryz.prog 155 #[.slice (some ⟨b, off, none⟩) len cap, .int .i64 at_] w fun e w' => e = .returned (.int .u32 (wd c0 c1 c2 c3)) ∧ ∃ n, w' = w.drewN n := by
 have a0 : (0 : Int) ≤ (at_ : Int) := by omega
 have a1 : (at_ : Int) < (len : Int) := by omega
 have a2 : (at_ : Int) + 1 < (len : Int) := by omega
 have a3 : (at_ : Int) + 2 < (len : Int) := by omega
 have a4 : (at_ : Int) + 3 < (len : Int) := by omega
 have H := Hd (wwd l0 g0 l1 g1 l2 g2 l3 g3)
 go_enter Tryz.func155, Tryz.ntmps155
 go_wp2_with fail
 go_quiet (fail)
 go_wp2_with fail
 go_ret
 exact ⟨ret_int (uh H), nq, rfl⟩

def nextW (B : Nat → Int) (L : List Nat) (n : Nat) : Nat :=
 if n < 16 then wd (B (4 * n)) (B (4 * n + 1)) (B (4 * n + 2)) (B (4 * n + 3))
 else add (add (add (L.getD (n - 16) 0) (s0 (L.getD (n - 15) 0))) (L.getD (n - 7) 0)) (s1 (L.getD (n - 2) 0))
def schedL (B : Nat → Int) : Nat → List Nat
 | 0 => []
 | n + 1 => schedL B n ++ [nextW B (schedL B n) n]
def W (B : Nat → Int) (i : Nat) : Nat := (schedL B (i + 1)).getD i 0
theorem schedL_len (B : Nat → Int) (n : Nat) : (schedL B n).length = n := by
 induction n with
 | zero => rfl
 | succ n ih => simp [schedL, ih]
theorem schedL_get (B : Nat → Int) (n i : Nat) (h : i < n) : (schedL B n).getD i 0 = W B i := by
 induction n with
 | zero => omega
 | succ n ih =>
  by_cases e : i = n
  ·subst e; rfl
  ·rw [← ih (by omega)]
   have hl := schedL_len B n
   rw [schedL, List.getD_eq_getElem?_getD, List.getD_eq_getElem?_getD, List.getElem?_append_left (by omega)]
theorem W_next (B : Nat → Int) (i : Nat) : W B i = nextW B (schedL B i) i := by
 unfold W
 have hl := schedL_len B i
 rw [schedL, List.getD_eq_getElem?_getD, List.getElem?_append_right (by omega), hl]
 simp
theorem W_lo (B : Nat → Int) {i : Nat} (h : i < 16) : W B i = wd (B (4 * i)) (B (4 * i + 1)) (B (4 * i + 2)) (B (4 * i + 3)) := by
 rw [W_next]; unfold nextW; rw [if_pos h]
theorem W_hi (B : Nat → Int) {i : Nat} (h : 16 ≤ i) : W B i = add (add (add (W B (i - 16)) (s0 (W B (i - 15)))) (W B (i - 7))) (s1 (W B (i - 2))) := by
 rw [W_next]; unfold nextW
 rw [if_neg (by omega), schedL_get B i _ (by omega), schedL_get B i _ (by omega), schedL_get B i _ (by omega), schedL_get B i _ (by omega)]
theorem W_lt (B : Nat → Int) (hB : ∀ i, B i ≤ 255) (i : Nat) : W B i < 4294967296 := by
 by_cases h : i < 16
 ·rw [W_lo B h]; exact wd_lt (hB _) (hB _) (hB _) (hB _)
 ·rw [W_hi B (by omega)]; exact add_lt _ _
def upTo (k : Nat) (f : Nat → Nat) (j : Nat) : Nat := if j < k then f j else 0
theorem upTo_step (k : Nat) (f : Nat → Nat) (j : Nat) : (if j = k then f k else upTo k f j) = upTo (k + 1) f j := by
 unfold upTo
 by_cases e : j = k
 ·subst e; rw [if_pos rfl, if_pos (by omega)]
 ·rw [if_neg e]
  by_cases h : j < k
  ·rw [if_pos h, if_pos (by omega)]
  ·rw [if_neg h, if_neg (by omega)]
theorem upTo_in {k j : Nat} (f : Nat → Nat) (h : j < k) : upTo k f j = f j := by unfold upTo; rw [if_pos h]
theorem Row32.step {w : World} {b n k : Nat} {f : Nat → Nat} (h : Row32 w b n (upTo k f)) : Row32 (w.setCell ⟨b, k, none⟩ (.int .u32 (f k))) b n (upTo (k + 1) f) :=
 (h.set k (f k)).congr fun j _ => upTo_step k f j
theorem wrap_small (n : Int) (h0 : 0 ≤ n) (h1 : n < 1000000) : IntKind.i64.wrap n = n := by
 simp only [IntKind.wrap, IntKind.bits, IntKind.signed]
 simp; omega
theorem uadd (a b : Nat) : IntKind.u32.wrap ((a : Int) + (b : Int)) = ((add a b : Nat) : Int) := by
 simp only [IntKind.wrap, IntKind.bits, IntKind.signed]
 unfold add; simp
theorem zero64 (w : World) (t : TypeId) (b : Nat) (hb : b = w.heap.size) : Row32 (w.alloc (Obj.cells #[Value.int IntKind.u32 0, Value.int IntKind.u32 0, Value.int IntKind.u32 0, Value.int IntKind.u32 0, Value.int IntKind.u32 0, Value.int IntKind.u32 0, Value.int IntKind.u32 0, Value.int IntKind.u32 0, Value.int IntKind.u32 0, Value.int IntKind.u32 0, Value.int IntKind.u32 0, Value.int IntKind.u32 0, Value.int IntKind.u32 0, Value.int IntKind.u32 0, Value.int IntKind.u32 0, Value.int IntKind.u32 0, Value.int IntKind.u32 0, Value.int IntKind.u32 0, Value.int IntKind.u32 0, Value.int IntKind.u32 0, Value.int IntKind.u32 0, Value.int IntKind.u32 0, Value.int IntKind.u32 0, Value.int IntKind.u32 0, Value.int IntKind.u32 0, Value.int IntKind.u32 0, Value.int IntKind.u32 0, Value.int IntKind.u32 0, Value.int IntKind.u32 0, Value.int IntKind.u32 0, Value.int IntKind.u32 0, Value.int IntKind.u32 0, Value.int IntKind.u32 0, Value.int IntKind.u32 0, Value.int IntKind.u32 0, Value.int IntKind.u32 0, Value.int IntKind.u32 0, Value.int IntKind.u32 0, Value.int IntKind.u32 0, Value.int IntKind.u32 0, Value.int IntKind.u32 0, Value.int IntKind.u32 0, Value.int IntKind.u32 0, Value.int IntKind.u32 0, Value.int IntKind.u32 0, Value.int IntKind.u32 0, Value.int IntKind.u32 0, Value.int IntKind.u32 0, Value.int IntKind.u32 0, Value.int IntKind.u32 0, Value.int IntKind.u32 0, Value.int IntKind.u32 0, Value.int IntKind.u32 0, Value.int IntKind.u32 0, Value.int IntKind.u32 0, Value.int IntKind.u32 0, Value.int IntKind.u32 0, Value.int IntKind.u32 0, Value.int IntKind.u32 0, Value.int IntKind.u32 0, Value.int IntKind.u32 0, Value.int IntKind.u32 0, Value.int IntKind.u32 0, Value.int IntKind.u32 0] t)) b 64 (fun _ => 0) := by
 subst hb
 intro j hj
 refine ⟨?_, by simp⟩
 rw [World.cell?_alloc_at _ _ _ _ rfl]
 have : ∀ j : Fin 64, (#[Value.int IntKind.u32 0, Value.int IntKind.u32 0, Value.int IntKind.u32 0, Value.int IntKind.u32 0, Value.int IntKind.u32 0, Value.int IntKind.u32 0, Value.int IntKind.u32 0, Value.int IntKind.u32 0, Value.int IntKind.u32 0, Value.int IntKind.u32 0, Value.int IntKind.u32 0, Value.int IntKind.u32 0, Value.int IntKind.u32 0, Value.int IntKind.u32 0, Value.int IntKind.u32 0, Value.int IntKind.u32 0, Value.int IntKind.u32 0, Value.int IntKind.u32 0, Value.int IntKind.u32 0, Value.int IntKind.u32 0, Value.int IntKind.u32 0, Value.int IntKind.u32 0, Value.int IntKind.u32 0, Value.int IntKind.u32 0, Value.int IntKind.u32 0, Value.int IntKind.u32 0, Value.int IntKind.u32 0, Value.int IntKind.u32 0, Value.int IntKind.u32 0, Value.int IntKind.u32 0, Value.int IntKind.u32 0, Value.int IntKind.u32 0, Value.int IntKind.u32 0, Value.int IntKind.u32 0, Value.int IntKind.u32 0, Value.int IntKind.u32 0, Value.int IntKind.u32 0, Value.int IntKind.u32 0, Value.int IntKind.u32 0, Value.int IntKind.u32 0, Value.int IntKind.u32 0, Value.int IntKind.u32 0, Value.int IntKind.u32 0, Value.int IntKind.u32 0, Value.int IntKind.u32 0, Value.int IntKind.u32 0, Value.int IntKind.u32 0, Value.int IntKind.u32 0, Value.int IntKind.u32 0, Value.int IntKind.u32 0, Value.int IntKind.u32 0, Value.int IntKind.u32 0, Value.int IntKind.u32 0, Value.int IntKind.u32 0, Value.int IntKind.u32 0, Value.int IntKind.u32 0, Value.int IntKind.u32 0, Value.int IntKind.u32 0, Value.int IntKind.u32 0, Value.int IntKind.u32 0, Value.int IntKind.u32 0, Value.int IntKind.u32 0, Value.int IntKind.u32 0, Value.int IntKind.u32 0] : Array Value)[j.val]? = some (Value.int IntKind.u32 0) := by
  intro j
  rcases j with ⟨j, hj⟩
  simp only [List.getElem?_toArray]
  repeat (rcases j with _ | j; · rfl)
  omega
 exact this ⟨j, hj⟩
theorem Row32.alloc {w : World} {b n : Nat} {f : Nat → Nat} (h : Row32 w b n f) (hb : b < w.heap.size) (c : Array Value) (t : TypeId) : Row32 (w.alloc (.cells c t)) b n f := fun j hj => by
 rw [World.cell?_alloc_lt _ _ _ hb]
 exact ⟨(h j hj).1, by rw [World.frozen?_alloc_past _ _ _ hb]; exact (h j hj).2⟩

theorem spread_any (b off cap : Nat) (B : Nat → Int) (w : World) (hblk : b < w.heap.size) (hB0 : ∀ i, 0 ≤ B i) (hB1 : ∀ i, B i ≤ 255)
  (hc : ∀ i, i < 64 → w.cell? ⟨b, off + i, none⟩ = some (.int .u8 (B i))) :
  Calls Tryz.prog 145 #[.slice (some ⟨b, off, none⟩) 64 cap] w fun e w' => e = .returned (.agg (cells32 64 (W B)).toArray) ∧ Below w.heap.size w w' := by
 have HC := Hd hc
 have H0 := Hd hB0
 have H1 := Hd hB1
 clear hc hB0 hB1
 go_enter Tryz.func145, Tryz.ntmps145
 go_wp2_with fail
 go_loopw [4, 6] (fun _ i wr => ∃ k : Nat, k ≤ 16 ∧ i = .int .i64 k ∧ Row32 wr (w.heap.size + 1) 64 (upTo k (W B)) ∧ Row32 wr w.heap.size 64 (fun _ => 0) ∧ Below w.heap.size w wr)
  (fun _ i _ => 16 - (intOf i).toNat)
 case atStart =>
  refine ⟨0, Nat.zero_le _, rfl, (zero64 _ _ _ (by simp)).congr (fun j _ => rfl), (zero64 w _ _ rfl).alloc (by simp) _ _, ((Below.refl _ _).alloc (Nat.le_refl _) _).alloc (by simp) _⟩
 case round =>
  obtain ⟨k, hk, rfl, hG, hR, hbel⟩ := hrel
  by_cases hlt : k < 16
  ·have hcl : ∀ i, i < 64 → wr.cell? ⟨b, off + i, none⟩ = some (.int .u8 (B i)) := fun i hi => (hbel.cell (p := ⟨b, off + i, none⟩) hblk).trans (uh HC i hi)
   have e0 := Hd (hcl (4 * k) (by omega))
   have e1 := Hd (hcl (4 * k + 1) (by omega))
   have e2 := Hd (hcl (4 * k + 2) (by omega))
   have e3 := Hd (hcl (4 * k + 3) (by omega))
   have hgk := (hG k (by omega)).1
   have hgf := (hG k (by omega)).2
   have HG := Hd hG
   have HR := Hd hR
   have HB := Hd hbel
   have HW := Hd (W_lo B hlt)
   have hk0 : (0 : Int) ≤ (k : Int) := by omega
   have hk1 : (k : Int) < 64 := by omega
   clear hG hR hbel hcl
   go_wp2_with fail
   rw [show (4 : Int) * (k : Int) = ((4 * k : Nat) : Int) by omega]
   refine (wordAt_any b off 64 cap (4 * k) _ _ _ _ wr (by omega) (by omega) (uh e0) (uh e1) (uh e2) (uh e3) (uh H0 _) (uh H1 _) (uh H0 _) (uh H1 _) (uh H0 _) (uh H1 _) (uh H0 _) (uh H1 _)).mono ?_
   rintro e w1 ⟨rfl, q, rfl⟩
   rw [← uh HW]
   clear HW e0 e1 e2 e3
   go_wp2_with fail
   refine ⟨⟨k + 1, by omega, by go_num, ((uh HG).drewN q).step, ((uh HR).drewN q).other (by simp) _, (below_drewN (uh HB) q).setCell (by simp) _⟩, ?_⟩
   simp [intOf]; omega
  ·obtain rfl : k = 16 := by omega
   go_wp2_with fail
   go_loopw [5] (fun i wr => ∃ k : Nat, k ≤ 48 ∧ i = .int .i64 ((k : Int) + 16) ∧ Row32 wr (w.heap.size + 1) 64 (upTo (k + 16) (W B)) ∧ Row32 wr w.heap.size 64 (fun _ => 0) ∧ Below w.heap.size w wr)
    (fun i _ => 64 - (intOf i).toNat)
   case atStart => exact ⟨0, Nat.zero_le _, rfl, hG, hR, hbel⟩
   case round =>
    clear hG hR hbel
    obtain ⟨k, hk, rfl, hG, hR, hbel⟩ := hrel
    by_cases hlt : k < 48
    ·have e1 := (hG k (by omega)).1
     have e2 := (hG (k + 1) (by omega)).1
     have e3 := (hG (k + 9) (by omega)).1
     have e4 := (hG (k + 14) (by omega)).1
     rw [upTo_in _ (by omega)] at e1 e2 e3 e4
     have hgk := (hG (k + 16) (by omega)).1
     have hgf := (hG (k + 16) (by omega)).2
     have HG := Hd hG
     have HR := Hd hR
     have HB := Hd hbel
     have HW : Hid (W B (k + 16) = add (add (add (W B k) (s0 (W B (k + 1)))) (W B (k + 9))) (s1 (W B (k + 14)))) := by
      have h := W_hi B (i := k + 16) (by omega)
      rw [show k + 16 - 16 = k by omega, show k + 16 - 15 = k + 1 by omega, show k + 16 - 7 = k + 9 by omega, show k + 16 - 2 = k + 14 by omega] at h
      exact h
     have l1 := W_lt B (uh H1) k
     have l2 := W_lt B (uh H1) (k + 1)
     have l3 := W_lt B (uh H1) (k + 9)
     have l4 := W_lt B (uh H1) (k + 14)
     have hk0 : (0 : Int) ≤ (k : Int) := by omega
     have hk1 : (k : Int) + 16 < 64 := by omega
     have t3 : ((k : Int) + 9).toNat = k + 9 := by omega
     have t4 : ((k : Int) + 14).toNat = k + 14 := by omega
     have t5 : ((k : Int) + 16).toNat = k + 16 := by omega
     have p1 := uadd (W B k) (s0 (W B (k + 1)))
     have p2 := uadd (add (W B k) (s0 (W B (k + 1)))) (W B (k + 9))
     have p3 := uadd (add (add (W B k) (s0 (W B (k + 1)))) (W B (k + 9))) (s1 (W B (k + 14)))
     have k1 : (k : Int) < 64 := by omega
     have n2 : (0 : Int) ≤ (k : Int) + 1 := by omega
     have n3 : (0 : Int) ≤ (k : Int) + 9 := by omega
     have n4 : (0 : Int) ≤ (k : Int) + 14 := by omega
     have n5 : (0 : Int) ≤ (k : Int) + 16 := by omega
     have k2 : (k : Int) + 1 < 64 := by omega
     have k3 : (k : Int) + 9 < 64 := by omega
     have k4 : (k : Int) + 14 < 64 := by omega
     have m1 : IntKind.i64.wrap (k : Int) = (k : Int) := wrap_small _ (by omega) (by omega)
     have m2 : IntKind.i64.wrap ((k : Int) + 16 - 15) = (k : Int) + 1 := by rw [show (k : Int) + 16 - 15 = (k : Int) + 1 by omega]; exact wrap_small _ (by omega) (by omega)
     have m3 : IntKind.i64.wrap ((k : Int) + 16 - 7) = (k : Int) + 9 := by rw [show (k : Int) + 16 - 7 = (k : Int) + 9 by omega]; exact wrap_small _ (by omega) (by omega)
     have m4 : IntKind.i64.wrap ((k : Int) + 16 - 2) = (k : Int) + 14 := by rw [show (k : Int) + 16 - 2 = (k : Int) + 14 by omega]; exact wrap_small _ (by omega) (by omega)
     clear hG hR hbel
     go_wp2_with fail
     refine wp_region_still_tail 23 (by kernel_rfl) (by kernel_rfl) ?_
     simp only [List.take_succ_cons, List.take_zero, List.drop_succ_cons, List.drop_zero]
     repeat (first | still_step | still_call (smallS_any _ _ l2) | still_call (smallT_any _ _ l4))
     refine wpStill_nil ?_
     go_wp2_with fail
     have hst := (uh HG).step
     rw [uh HW] at hst
     refine ⟨?_, ?_⟩
     ·repeat (apply Exists.intro)
      refine ⟨?_, rfl⟩
      exact ⟨k + 1, by omega, by go_num, by rw [show k + 1 + 16 = k + 16 + 1 by omega]; exact hst, (uh HR).other (a := ⟨w.heap.size + 1, k + 16, none⟩) (by simp) _, (uh HB).drew.setCell (by simp) _⟩
     ·simp [intOf]; omega
    ·obtain rfl : k = 48 := by omega
     have HB := Hd hbel
     have hu := Tryz.underlying192
     have hr := (hG.congr (g := W B) fun j hj => upTo_in _ (by omega)).range
     have ht : wr.there w.heap.size 0 (cells32 64 (W B)).toArray.size := by
      rw [show (cells32 64 (W B)).toArray.size = 64 by simp [cells32_len]]; exact hR.there
     have hst := Hd (hR.stored (g := W B))
     have hi1 : (Tryz.prog.info? 192).map (·.size) = some (cells32 64 (W B)).length := by rw [cells32_len]; kernel_rfl
     have hi2 : (Tryz.prog.info? 192).map (·.size) = some (cells32 64 (W B)).toArray.size := by rw [show (cells32 64 (W B)).toArray.size = 64 by simp [cells32_len]]; kernel_rfl
     go_wp2_with (first | (refine wpList_load_mid rfl 192 _ rfl (w.heap.size + 1) 0 rfl _ _ hr hu rfl hi1 ?_) | (refine wpList_store_mid rfl 192 _ _ rfl w.heap.size 0 _ rfl rfl (by exact ht) hi2 (all_oneCell_toArray (cells32_one _ _)) ?_))
     refine bodyPost_ret (v := .agg (cells32 64 (W B)).toArray) (results_cell (p := 2) (ty := 192) (a := ⟨w.heap.size, 0, none⟩) (by kernel_rfl) rfl (run_loadVar_mid _ _ 0 192 _ _ (uh hst).range hu rfl hi1)) rfl ⟨rfl, ?_⟩
     exact below_setCells (Nat.le_refl _) _ _ (uh HB)
end Go.Proofs.YtnhhnjmjodmacaaGreatDoor.Sha
