/- What the proof of the claim needs (joined by program): ShaR ShaS ShaM ShaT ShaP. -/
import Derived.Test.YtbchnheinnileaaGreatDoorQca01
import Derived.Test.YtbchnheinnileaaGreatDoorQca00
import Derived.StillTailTactics
import Derived.Deep.MidRow
import Derived.Laws.CopyOwn
namespace Go.Proofs.YtbchnheinnileaaGreatDoor.Sha
set_option maxRecDepth 100000
set_option maxHeartbeats 8000000
open Go.ChangeShapes Go.WideShapes Go.ChangeAt Go.RowKit
set_option linter.unusedVariables false
def Row32 (w : World) (b n : Nat) (f : Nat → Nat) : Prop := ∀ j, j < n → w.cell? ⟨b, j, none⟩ = some (.int .u32 (f j)) ∧ w.frozen? ⟨b, j, none⟩ = false
theorem Row32.congr {w : World} {b n : Nat} {f g : Nat → Nat} (h : Row32 w b n f) (e : ∀ j, j < n → f j = g j) : Row32 w b n g := fun j hj => by rw [← e j hj]; exact h j hj
theorem Row32.set {w : World} {b n : Nat} {f : Nat → Nat} (h : Row32 w b n f) (k x : Nat) : Row32 (w.setCell ⟨b, k, none⟩ (.int .u32 x)) b n (fun j => if j = k then x else f j) := by
 intro j hj
 refine ⟨?_, by rw [World.frozen?_setCell]; exact (h j hj).2⟩
 by_cases e : j = k
 ·subst e; dsimp only; rw [if_pos rfl]; exact World.cell?_setCell_same w _ _ (h j hj).1
 ·dsimp only; rw [if_neg e, World.cell?_setCell_other w _ _ _ (fun h => e (by simpa using (congrArg Addr.off h).symm))]
  exact (h j hj).1
theorem Row32.other {w : World} {b n : Nat} {f : Nat → Nat} (h : Row32 w b n f) {a : Addr} (ha : a.block ≠ b) (v : Value) : Row32 (w.setCell a v) b n f := by
 intro j hj
 refine ⟨?_, by rw [World.frozen?_setCell]; exact (h j hj).2⟩
 rw [World.cell?_setCell_other w _ _ _ (fun h => ha (by rw [h]))]
 exact (h j hj).1
theorem Row32.drewN {w : World} {b n : Nat} {f : Nat → Nat} (h : Row32 w b n f) (q : Nat) : Row32 (w.drewN q) b n f := h
theorem Row32.below {w w' : World} {b n B : Nat} {f : Nat → Nat} (h : Row32 w b n f) (hb : Below B w w') (hB : b < B) : Row32 w' b n f := fun j hj => by
 rw [hb.cell (p := ⟨b, j, none⟩) hB, hb.frozen (p := ⟨b, j, none⟩) hB]; exact h j hj
def cells32 (n : Nat) (f : Nat → Nat) : List Value := (List.range n).map fun j => Value.int .u32 (f j)
theorem cells32_len (n : Nat) (f : Nat → Nat) : (cells32 n f).length = n := by simp [cells32]
theorem cells32_one (n : Nat) (f : Nat → Nat) : ∀ v ∈ cells32 n f, v.oneCell' = true := by
 intro v hv
 simp only [cells32, List.mem_map] at hv
 obtain ⟨j, _, rfl⟩ := hv
 rfl
theorem Row32.range {w : World} {b n : Nat} {f : Nat → Nat} (h : Row32 w b n f) : w.rangeAt b 0 (cells32 n f) := by
 intro j v hv
 have hj : j < n := by have := (List.getElem?_eq_some_iff.1 hv).1; rwa [cells32_len] at this
 rw [Nat.zero_add, (h j hj).1, ← hv]
 simp [cells32, hj]
theorem Row32.there {w : World} {b n : Nat} {f : Nat → Nat} (h : Row32 w b n f) : w.there b 0 n := by
 intro j hj
 rw [Nat.zero_add, (h j hj).1]
 exact ⟨rfl, (h j hj).2⟩
theorem Row32.stored {w : World} {b n : Nat} {f g : Nat → Nat} (h : Row32 w b n f) : Row32 (w.setCells b 0 (cells32 n g)) b n g := by
 intro j hj
 have ht : w.there b 0 (cells32 n g).length := by rw [cells32_len]; exact h.there
 have hr := World.rangeAt_setCells_same w b 0 (cells32 n g) ht j (.int .u32 (g j)) (by simp [cells32, hj])
 rw [Nat.zero_add] at hr
 exact ⟨hr, by rw [World.frozen?_setCells]; exact (h j hj).2⟩
theorem Row32.apart {w : World} {b n : Nat} {f : Nat → Nat} (h : Row32 w b n f) {b' o : Nat} (hb : b ≠ b') (vs : List Value) : Row32 (w.setCells b' o vs) b n f := by
 intro j hj
 refine ⟨?_, by rw [World.frozen?_setCells]; exact (h j hj).2⟩
 rw [World.cell?_setCells_out b' vs o w ⟨b, j, none⟩ (fun e => absurd e hb)]
 exact (h j hj).1
theorem below_setCells {B b : Nat} (hB : B ≤ b) : ∀ (vs : List Value) (o : Nat) {a w : World}, Below B a w → Below B a (w.setCells b o vs)
 | [], _, _, _, h => h
 | v :: r, o, a, w, h => by rw [World.setCells]; exact below_setCells hB r (o + 1) (h.setCell hB _)

theorem results_cell {fn : Func} {p : Tmp} {ty : TypeId} (h : fn.results = #[.cell p ty]) {tmps : Array Value} {P : Program} {w : World} {a : Addr} {v : Value} (hp : tmps.getD p undef = .pointer (some a)) (hl : (loadVar ty a).run P w = .ok v w) :
  (results fn tmps).run P w = .ok v w := by
 have hp' : tmps[p]?.getD undef = .pointer (some a) := by rw [← hp]; simp
 simp only [results, h]
 simp [hp', asAddr, hl]
def wd (c0 c1 c2 c3 : Int) : Nat := c0.toNat * 16777216 ||| c1.toNat * 65536 ||| c2.toNat * 256 ||| c3.toNat
theorem wd_lt {c0 c1 c2 c3 : Int} (g0 : c0 ≤ 255) (g1 : c1 ≤ 255) (g2 : c2 ≤ 255) (g3 : c3 ≤ 255) : wd c0 c1 c2 c3 < 4294967296 :=
 or_lt (or_lt (or_lt (by omega) (by omega)) (by omega)) (by omega)
theorem wwd {c0 c1 c2 c3 : Int} (l0 : 0 ≤ c0) (g0 : c0 ≤ 255) (l1 : 0 ≤ c1) (g1 : c1 ≤ 255) (l2 : 0 ≤ c2) (g2 : c2 ≤ 255) (l3 : 0 ≤ c3) (g3 : c3 ≤ 255) :
  bits BinOp.or IntKind.u32 (bits BinOp.or IntKind.u32 (bits BinOp.or IntKind.u32 (c0 * 16777216) (c1 * 65536)) (c2 * 256)) c3 = ((wd c0 c1 c2 c3 : Nat) : Int) := by
 obtain ⟨a, rfl⟩ := Int.eq_ofNat_of_zero_le l0
 obtain ⟨b, rfl⟩ := Int.eq_ofNat_of_zero_le l1
 obtain ⟨c, rfl⟩ := Int.eq_ofNat_of_zero_le l2
 obtain ⟨d, rfl⟩ := Int.eq_ofNat_of_zero_le l3
 have e1 : (a : Int) * 16777216 = ((a * 16777216 : Nat) : Int) := by omega
 have e2 : (b : Int) * 65536 = ((b * 65536 : Nat) : Int) := by omega
 have e3 : (c : Int) * 256 = ((c * 256 : Nat) : Int) := by omega
 rw [e1, e2, e3, wor (by omega) (by omega), wor (or_lt (by omega) (by omega)) (by omega), wor (or_lt (or_lt (by omega) (by omega)) (by omega)) (by omega)]
 rfl

theorem wordAt_any (b off len cap at_ : Nat) (c0 c1 c2 c3 : Int) (w : World) (hat : at_ + 4 ≤ len) (hlen : len ≤ 1048576)
  (h0 : w.cell? ⟨b, off + at_, none⟩ = some (.int .u8 c0)) (h1 : w.cell? ⟨b, off + (at_ + 1), none⟩ = some (.int .u8 c1)) (h2 : w.cell? ⟨b, off + (at_ + 2), none⟩ = some (.int .u8 c2)) (h3 : w.cell? ⟨b, off + (at_ + 3), none⟩ = some (.int .u8 c3))
  (l0 : 0 ≤ c0) (g0 : c0 ≤ 255) (l1 : 0 ≤ c1) (g1 : c1 ≤ 255) (l2 : 0 ≤ c2) (g2 : c2 ≤ 255) (l3 : 0 ≤ c3) (g3 : c3 ≤ 255) :
  Calls Tryz.prog 142 #[.slice (some ⟨b, off, none⟩) len cap, .int .i64 at_] w fun e w' => e = .returned (.int .u32 (wd c0 c1 c2 c3)) ∧ ∃ n, w' = w.drewN n := by
 have a0 : (0 : Int) ≤ (at_ : Int) := by omega
 have a1 : (at_ : Int) < (len : Int) := by omega
 have a2 : (at_ : Int) + 1 < (len : Int) := by omega
 have a3 : (at_ : Int) + 2 < (len : Int) := by omega
 have a4 : (at_ : Int) + 3 < (len : Int) := by omega
 have H := Hd (wwd l0 g0 l1 g1 l2 g2 l3 g3)
 go_enter Tryz.func142, Tryz.ntmps142
 go_wp2_with fail
 go_quiet (fail)
 go_wp2_with fail
 go_ret
 exact ⟨ret_int (uh H), nq, rfl⟩

def nextW (B : Nat → Int) (L : List Nat) (n : Nat) : Nat :=
 if n < 16 then wd (B (4 * n)) (B (4 * n + 1)) (B (4 * n + 2)) (B (4 * n + 3))
 else add (add (add (L.getD (n - 16) 0) (s0 (L.getD (n - 15) 0))) (L.getD (n - 7) 0)) (s1 (L.getD (n - 2) 0))
def schedL (B : Nat → Int) : Nat → List Nat
 | 0 => []
 | n + 1 => schedL B n ++ [nextW B (schedL B n) n]
def W (B : Nat → Int) (i : Nat) : Nat := (schedL B (i + 1)).getD i 0
theorem schedL_len (B : Nat → Int) (n : Nat) : (schedL B n).length = n := by
 induction n with
 | zero => rfl
 | succ n ih => simp [schedL, ih]
theorem schedL_get (B : Nat → Int) (n i : Nat) (h : i < n) : (schedL B n).getD i 0 = W B i := by
 induction n with
 | zero => omega
 | succ n ih =>
  by_cases e : i = n
  ·subst e; rfl
  ·rw [← ih (by omega)]
   have hl := schedL_len B n
   rw [schedL, List.getD_eq_getElem?_getD, List.getD_eq_getElem?_getD, List.getElem?_append_left (by omega)]
theorem W_next (B : Nat → Int) (i : Nat) : W B i = nextW B (schedL B i) i := by
 unfold W
 have hl := schedL_len B i
 rw [schedL, List.getD_eq_getElem?_getD, List.getElem?_append_right (by omega), hl]
 simp
theorem W_lo (B : Nat → Int) {i : Nat} (h : i < 16) : W B i = wd (B (4 * i)) (B (4 * i + 1)) (B (4 * i + 2)) (B (4 * i + 3)) := by
 rw [W_next]; unfold nextW; rw [if_pos h]
theorem W_hi (B : Nat → Int) {i : Nat} (h : 16 ≤ i) : W B i = add (add (add (W B (i - 16)) (s0 (W B (i - 15)))) (W B (i - 7))) (s1 (W B (i - 2))) := by
 rw [W_next]; unfold nextW
 rw [if_neg (by omega), schedL_get B i _ (by omega), schedL_get B i _ (by omega), schedL_get B i _ (by omega), schedL_get B i _ (by omega)]
theorem W_lt (B : Nat → Int) (hB : ∀ i, B i ≤ 255) (i : Nat) : W B i < 4294967296 := by
 by_cases h : i < 16
 ·rw [W_lo B h]; exact wd_lt (hB _) (hB _) (hB _) (hB _)
 ·rw [W_hi B (by omega)]; exact add_lt _ _
def upTo (k : Nat) (f : Nat → Nat) (j : Nat) : Nat := if j < k then f j else 0
theorem upTo_step (k : Nat) (f : Nat → Nat) (j : Nat) : (if j = k then f k else upTo k f j) = upTo (k + 1) f j := by
 unfold upTo
 by_cases e : j = k
 ·subst e; rw [if_pos rfl, if_pos (by omega)]
 ·rw [if_neg e]
  by_cases h : j < k
  ·rw [if_pos h, if_pos (by omega)]
  ·rw [if_neg h, if_neg (by omega)]
theorem upTo_in {k j : Nat} (f : Nat → Nat) (h : j < k) : upTo k f j = f j := by unfold upTo; rw [if_pos h]
theorem Row32.step {w : World} {b n k : Nat} {f : Nat → Nat} (h : Row32 w b n (upTo k f)) : Row32 (w.setCell ⟨b, k, none⟩ (.int .u32 (f k))) b n (upTo (k + 1) f) :=
 (h.set k (f k)).congr fun j _ => upTo_step k f j
theorem wrap_small (n : Int) (h0 : 0 ≤ n) (h1 : n < 1000000) : IntKind.i64.wrap n = n := by
 simp only [IntKind.wrap, IntKind.bits, IntKind.signed]
 simp; omega
theorem uadd (a b : Nat) : IntKind.u32.wrap ((a : Int) + (b : Int)) = ((add a b : Nat) : Int) := by
 simp only [IntKind.wrap, IntKind.bits, IntKind.signed]
 unfold add; simp
theorem zero64 (w : World) (t : TypeId) (b : Nat) (hb : b = w.heap.size) : Row32 (w.alloc (Obj.cells #[Value.int IntKind.u32 0, Value.int IntKind.u32 0, Value.int IntKind.u32 0, Value.int IntKind.u32 0, Value.int IntKind.u32 0, Value.int IntKind.u32 0, Value.int IntKind.u32 0, Value.int IntKind.u32 0, Value.int IntKind.u32 0, Value.int IntKind.u32 0, Value.int IntKind.u32 0, Value.int IntKind.u32 0, Value.int IntKind.u32 0, Value.int IntKind.u32 0, Value.int IntKind.u32 0, Value.int IntKind.u32 0, Value.int IntKind.u32 0, Value.int IntKind.u32 0, Value.int IntKind.u32 0, Value.int IntKind.u32 0, Value.int IntKind.u32 0, Value.int IntKind.u32 0, Value.int IntKind.u32 0, Value.int IntKind.u32 0, Value.int IntKind.u32 0, Value.int IntKind.u32 0, Value.int IntKind.u32 0, Value.int IntKind.u32 0, Value.int IntKind.u32 0, Value.int IntKind.u32 0, Value.int IntKind.u32 0, Value.int IntKind.u32 0, Value.int IntKind.u32 0, Value.int IntKind.u32 0, Value.int IntKind.u32 0, Value.int IntKind.u32 0, Value.int IntKind.u32 0, Value.int IntKind.u32 0, Value.int IntKind.u32 0, Value.int IntKind.u32 0, Value.int IntKind.u32 0, Value.int IntKind.u32 0, Value.int IntKind.u32 0, Value.int IntKind.u32 0, Value.int IntKind.u32 0, Value.int IntKind.u32 0, Value.int IntKind.u32 0, Value.int IntKind.u32 0, Value.int IntKind.u32 0, Value.int IntKind.u32 0, Value.int IntKind.u32 0, Value.int IntKind.u32 0, Value.int IntKind.u32 0, Value.int IntKind.u32 0, Value.int IntKind.u32 0, Value.int IntKind.u32 0, Value.int IntKind.u32 0, Value.int IntKind.u32 0, Value.int IntKind.u32 0, Value.int IntKind.u32 0, Value.int IntKind.u32 0, Value.int IntKind.u32 0, Value.int IntKind.u32 0, Value.int IntKind.u32 0] t)) b 64 (fun _ => 0) := by
 subst hb
 intro j hj
 refine ⟨?_, by simp⟩
 rw [World.cell?_alloc_at _ _ _ _ rfl]
 have : ∀ j : Fin 64, (#[Value.int IntKind.u32 0, Value.int IntKind.u32 0, Value.int IntKind.u32 0, Value.int IntKind.u32 0, Value.int IntKind.u32 0, Value.int IntKind.u32 0, Value.int IntKind.u32 0, Value.int IntKind.u32 0, Value.int IntKind.u32 0, Value.int IntKind.u32 0, Value.int IntKind.u32 0, Value.int IntKind.u32 0, Value.int IntKind.u32 0, Value.int IntKind.u32 0, Value.int IntKind.u32 0, Value.int IntKind.u32 0, Value.int IntKind.u32 0, Value.int IntKind.u32 0, Value.int IntKind.u32 0, Value.int IntKind.u32 0, Value.int IntKind.u32 0, Value.int IntKind.u32 0, Value.int IntKind.u32 0, Value.int IntKind.u32 0, Value.int IntKind.u32 0, Value.int IntKind.u32 0, Value.int IntKind.u32 0, Value.int IntKind.u32 0, Value.int IntKind.u32 0, Value.int IntKind.u32 0, Value.int IntKind.u32 0, Value.int IntKind.u32 0, Value.int IntKind.u32 0, Value.int IntKind.u32 0, Value.int IntKind.u32 0, Value.int IntKind.u32 0, Value.int IntKind.u32 0, Value.int IntKind.u32 0, Value.int IntKind.u32 0, Value.int IntKind.u32 0, Value.int IntKind.u32 0, Value.int IntKind.u32 0, Value.int IntKind.u32 0, Value.int IntKind.u32 0, Value.int IntKind.u32 0, Value.int IntKind.u32 0, Value.int IntKind.u32 0, Value.int IntKind.u32 0, Value.int IntKind.u32 0, Value.int IntKind.u32 0, Value.int IntKind.u32 0, Value.int IntKind.u32 0, Value.int IntKind.u32 0, Value.int IntKind.u32 0, Value.int IntKind.u32 0, Value.int IntKind.u32 0, Value.int IntKind.u32 0, Value.int IntKind.u32 0, Value.int IntKind.u32 0, Value.int IntKind.u32 0, Value.int IntKind.u32 0, Value.int IntKind.u32 0, Value.int IntKind.u32 0, Value.int IntKind.u32 0] : Array Value)[j.val]? = some (Value.int IntKind.u32 0) := by
  intro j
  rcases j with ⟨j, hj⟩
  simp only [List.getElem?_toArray]
  repeat (rcases j with _ | j; · rfl)
  omega
 exact this ⟨j, hj⟩
theorem Row32.alloc {w : World} {b n : Nat} {f : Nat → Nat} (h : Row32 w b n f) (hb : b < w.heap.size) (c : Array Value) (t : TypeId) : Row32 (w.alloc (.cells c t)) b n f := fun j hj => by
 rw [World.cell?_alloc_lt _ _ _ hb]
 exact ⟨(h j hj).1, by rw [World.frozen?_alloc_past _ _ _ hb]; exact (h j hj).2⟩

theorem spread_any (b off cap : Nat) (B : Nat → Int) (w : World) (hblk : b < w.heap.size) (hB0 : ∀ i, 0 ≤ B i) (hB1 : ∀ i, B i ≤ 255)
  (hc : ∀ i, i < 64 → w.cell? ⟨b, off + i, none⟩ = some (.int .u8 (B i))) :
  Calls Tryz.prog 131 #[.slice (some ⟨b, off, none⟩) 64 cap] w fun e w' => e = .returned (.agg (cells32 64 (W B)).toArray) ∧ Below w.heap.size w w' := by
 have HC := Hd hc
 have H0 := Hd hB0
 have H1 := Hd hB1
 clear hc hB0 hB1
 go_enter Tryz.func131, Tryz.ntmps131
 go_wp2_with fail
 go_loopw [4, 6] (fun _ i wr => ∃ k : Nat, k ≤ 16 ∧ i = .int .i64 k ∧ Row32 wr (w.heap.size + 1) 64 (upTo k (W B)) ∧ Row32 wr w.heap.size 64 (fun _ => 0) ∧ Below w.heap.size w wr)
  (fun _ i _ => 16 - (intOf i).toNat)
 case atStart =>
  refine ⟨0, Nat.zero_le _, rfl, (zero64 _ _ _ (by simp)).congr (fun j _ => rfl), (zero64 w _ _ rfl).alloc (by simp) _ _, ((Below.refl _ _).alloc (Nat.le_refl _) _).alloc (by simp) _⟩
 case round =>
  obtain ⟨k, hk, rfl, hG, hR, hbel⟩ := hrel
  by_cases hlt : k < 16
  ·have hcl : ∀ i, i < 64 → wr.cell? ⟨b, off + i, none⟩ = some (.int .u8 (B i)) := fun i hi => (hbel.cell (p := ⟨b, off + i, none⟩) hblk).trans (uh HC i hi)
   have e0 := Hd (hcl (4 * k) (by omega))
   have e1 := Hd (hcl (4 * k + 1) (by omega))
   have e2 := Hd (hcl (4 * k + 2) (by omega))
   have e3 := Hd (hcl (4 * k + 3) (by omega))
   have hgk := (hG k (by omega)).1
   have hgf := (hG k (by omega)).2
   have HG := Hd hG
   have HR := Hd hR
   have HB := Hd hbel
   have HW := Hd (W_lo B hlt)
   have hk0 : (0 : Int) ≤ (k : Int) := by omega
   have hk1 : (k : Int) < 64 := by omega
   clear hG hR hbel hcl
   go_wp2_with fail
   rw [show (4 : Int) * (k : Int) = ((4 * k : Nat) : Int) by omega]
   refine (wordAt_any b off 64 cap (4 * k) _ _ _ _ wr (by omega) (by omega) (uh e0) (uh e1) (uh e2) (uh e3) (uh H0 _) (uh H1 _) (uh H0 _) (uh H1 _) (uh H0 _) (uh H1 _) (uh H0 _) (uh H1 _)).mono ?_
   rintro e w1 ⟨rfl, q, rfl⟩
   rw [← uh HW]
   clear HW e0 e1 e2 e3
   go_wp2_with fail
   refine ⟨⟨k + 1, by omega, by go_num, ((uh HG).drewN q).step, ((uh HR).drewN q).other (by simp) _, (below_drewN (uh HB) q).setCell (by simp) _⟩, ?_⟩
   simp [intOf]; omega
  ·obtain rfl : k = 16 := by omega
   go_wp2_with fail
   go_loopw [5] (fun i wr => ∃ k : Nat, k ≤ 48 ∧ i = .int .i64 ((k : Int) + 16) ∧ Row32 wr (w.heap.size + 1) 64 (upTo (k + 16) (W B)) ∧ Row32 wr w.heap.size 64 (fun _ => 0) ∧ Below w.heap.size w wr)
    (fun i _ => 64 - (intOf i).toNat)
   case atStart => exact ⟨0, Nat.zero_le _, rfl, hG, hR, hbel⟩
   case round =>
    clear hG hR hbel
    obtain ⟨k, hk, rfl, hG, hR, hbel⟩ := hrel
    by_cases hlt : k < 48
    ·have e1 := (hG k (by omega)).1
     have e2 := (hG (k + 1) (by omega)).1
     have e3 := (hG (k + 9) (by omega)).1
     have e4 := (hG (k + 14) (by omega)).1
     rw [upTo_in _ (by omega)] at e1 e2 e3 e4
     have hgk := (hG (k + 16) (by omega)).1
     have hgf := (hG (k + 16) (by omega)).2
     have HG := Hd hG
     have HR := Hd hR
     have HB := Hd hbel
     have HW : Hid (W B (k + 16) = add (add (add (W B k) (s0 (W B (k + 1)))) (W B (k + 9))) (s1 (W B (k + 14)))) := by
      have h := W_hi B (i := k + 16) (by omega)
      rw [show k + 16 - 16 = k by omega, show k + 16 - 15 = k + 1 by omega, show k + 16 - 7 = k + 9 by omega, show k + 16 - 2 = k + 14 by omega] at h
      exact h
     have l1 := W_lt B (uh H1) k
     have l2 := W_lt B (uh H1) (k + 1)
     have l3 := W_lt B (uh H1) (k + 9)
     have l4 := W_lt B (uh H1) (k + 14)
     have hk0 : (0 : Int) ≤ (k : Int) := by omega
     have hk1 : (k : Int) + 16 < 64 := by omega
     have t3 : ((k : Int) + 9).toNat = k + 9 := by omega
     have t4 : ((k : Int) + 14).toNat = k + 14 := by omega
     have t5 : ((k : Int) + 16).toNat = k + 16 := by omega
     have p1 := uadd (W B k) (s0 (W B (k + 1)))
     have p2 := uadd (add (W B k) (s0 (W B (k + 1)))) (W B (k + 9))
     have p3 := uadd (add (add (W B k) (s0 (W B (k + 1)))) (W B (k + 9))) (s1 (W B (k + 14)))
     have k1 : (k : Int) < 64 := by omega
     have n2 : (0 : Int) ≤ (k : Int) + 1 := by omega
     have n3 : (0 : Int) ≤ (k : Int) + 9 := by omega
     have n4 : (0 : Int) ≤ (k : Int) + 14 := by omega
     have n5 : (0 : Int) ≤ (k : Int) + 16 := by omega
     have k2 : (k : Int) + 1 < 64 := by omega
     have k3 : (k : Int) + 9 < 64 := by omega
     have k4 : (k : Int) + 14 < 64 := by omega
     have m1 : IntKind.i64.wrap (k : Int) = (k : Int) := wrap_small _ (by omega) (by omega)
     have m2 : IntKind.i64.wrap ((k : Int) + 16 - 15) = (k : Int) + 1 := by rw [show (k : Int) + 16 - 15 = (k : Int) + 1 by omega]; exact wrap_small _ (by omega) (by omega)
     have m3 : IntKind.i64.wrap ((k : Int) + 16 - 7) = (k : Int) + 9 := by rw [show (k : Int) + 16 - 7 = (k : Int) + 9 by omega]; exact wrap_small _ (by omega) (by omega)
     have m4 : IntKind.i64.wrap ((k : Int) + 16 - 2) = (k : Int) + 14 := by rw [show (k : Int) + 16 - 2 = (k : Int) + 14 by omega]; exact wrap_small _ (by omega) (by omega)
     clear hG hR hbel
     go_wp2_with fail
     refine wp_region_still_tail 23 (by kernel_rfl) (by kernel_rfl) ?_
     simp only [List.take_succ_cons, List.take_zero, List.drop_succ_cons, List.drop_zero]
     repeat (first | still_step | still_call (smallS_any _ _ l2) | still_call (smallT_any _ _ l4))
     refine wpStill_nil ?_
     go_wp2_with fail
     have hst := (uh HG).step
     rw [uh HW] at hst
     refine ⟨?_, ?_⟩
     ·repeat (apply Exists.intro)
      refine ⟨?_, rfl⟩
      exact ⟨k + 1, by omega, by go_num, by rw [show k + 1 + 16 = k + 16 + 1 by omega]; exact hst, (uh HR).other (a := ⟨w.heap.size + 1, k + 16, none⟩) (by simp) _, (uh HB).drew.setCell (by simp) _⟩
     ·simp [intOf]; omega
    ·obtain rfl : k = 48 := by omega
     have HB := Hd hbel
     have hu := Tryz.underlying187
     have hr := (hG.congr (g := W B) fun j hj => upTo_in _ (by omega)).range
     have ht : wr.there w.heap.size 0 (cells32 64 (W B)).toArray.size := by
      rw [show (cells32 64 (W B)).toArray.size = 64 by simp [cells32_len]]; exact hR.there
     have hst := Hd (hR.stored (g := W B))
     have hi1 : (Tryz.prog.info? 187).map (·.size) = some (cells32 64 (W B)).length := by rw [cells32_len]; kernel_rfl
     have hi2 : (Tryz.prog.info? 187).map (·.size) = some (cells32 64 (W B)).toArray.size := by rw [show (cells32 64 (W B)).toArray.size = 64 by simp [cells32_len]]; kernel_rfl
     go_wp2_with (first | (refine wpList_load_mid rfl 187 _ rfl (w.heap.size + 1) 0 rfl _ _ hr hu rfl hi1 ?_) | (refine wpList_store_mid rfl 187 _ _ rfl w.heap.size 0 _ rfl rfl (by exact ht) hi2 (all_oneCell_toArray (cells32_one _ _)) ?_))
     refine bodyPost_ret (v := .agg (cells32 64 (W B)).toArray) (results_cell (p := 2) (ty := 187) (a := ⟨w.heap.size, 0, none⟩) (by kernel_rfl) rfl (run_loadVar_mid _ _ 0 187 _ _ (uh hst).range hu rfl hi1)) rfl ⟨rfl, ?_⟩
     exact below_setCells (Nat.le_refl _) _ _ (uh HB)
def kL : List Nat := [1116352408, 1899447441, 3049323471, 3921009573, 961987163, 1508970993, 2453635748, 2870763221, 3624381080, 310598401, 607225278, 1426881987, 1925078388, 2162078206, 2614888103, 3248222580, 3835390401, 4022224774, 264347078, 604807628, 770255983, 1249150122, 1555081692, 1996064986, 2554220882, 2821834349, 2952996808, 3210313671, 3336571891, 3584528711, 113926993, 338241895, 666307205, 773529912, 1294757372, 1396182291, 1695183700, 1986661051, 2177026350, 2456956037, 2730485921, 2820302411, 3259730800, 3345764771, 3516065817, 3600352804, 4094571909, 275423344, 430227734, 506948616, 659060556, 883997877, 958139571, 1322822218, 1537002063, 1747873779, 1955562222, 2024104815, 2227730452, 2361852424, 2428436474, 2756734187, 3204031479, 3329325298]
def kW (i : Nat) : Nat := kL.getD i 0
def tT (K Wt : Nat) (s : Nat → Nat) : Nat := add (add (add (add (s 7) (bE (s 4))) (ch (s 4) (s 5) (s 6))) K) Wt
def tU (s : Nat → Nat) : Nat := add (bA (s 0)) (maj (s 0) (s 1) (s 2))
def rnd (K Wt : Nat) (s : Nat → Nat) : Nat → Nat
 | 0 => add (tT K Wt s) (tU s)
 | 1 => s 0
 | 2 => s 1
 | 3 => s 2
 | 4 => add (s 3) (tT K Wt s)
 | 5 => s 4
 | 6 => s 5
 | _ => s 6
def rounds (f : Nat → Nat) (s : Nat → Nat) : Nat → Nat → Nat
 | 0 => s
 | n + 1 => rnd (kW n) (f n) (rounds f s n)
theorem rnd_lt {K Wt : Nat} {s : Nat → Nat} (h : ∀ j, s j < 4294967296) : ∀ j, rnd K Wt s j < 4294967296 := by
 intro j
 unfold rnd
 split <;> first | exact add_lt _ _ | exact h _
theorem rounds_lt {f : Nat → Nat} {s : Nat → Nat} (h : ∀ j, s j < 4294967296) (n : Nat) : ∀ j, rounds f s n j < 4294967296 := by
 induction n with
 | zero => exact h
 | succ n ih => exact rnd_lt ih
def after (f : Nat → Nat) (s : Nat → Nat) (j : Nat) : Nat := add (rounds f s 64 j) (s j)
theorem after_lt (f s : Nat → Nat) (j : Nat) : after f s j < 4294967296 := add_lt _ _
theorem row_box (w : World) (n : Nat) (f : Nat → Nat) (t : TypeId) (b : Nat) (hb : b = w.heap.size) : Row32 (w.alloc (.cells (cells32 n f).toArray t)) b n f := by
 subst hb
 intro j hj
 refine ⟨?_, by simp⟩
 rw [World.cell?_alloc_at _ _ _ _ rfl]
 simp [cells32, hj]
def Table (w : World) : Prop := 1 < w.heap.size ∧ ∀ i, i < 64 → w.cell? ⟨1, i, none⟩ = some (.int .u32 (kW i))
theorem Table.below {w w' : World} {B : Nat} (h : Table w) (hb : Below B w w') (hB : w.heap.size ≤ B) : Table w' :=
 ⟨Nat.lt_of_lt_of_le h.1 hb.size, fun i hi => by rw [hb.cell (p := ⟨1, i, none⟩) (Nat.lt_of_lt_of_le h.1 hB)]; exact h.2 i hi⟩

theorem eqP (K Wt : Nat) (s : Nat → Nat) : (((((s 7 : Nat) : Int) + ((bE (s 4) : Nat) : Int) + ((ch (s 4) (s 5) (s 6) : Nat) : Int) + (K : Int)) % 4294967296 + (Wt : Int)) % 4294967296) = ((tT K Wt s : Nat) : Int) := by
 unfold tT add; omega
theorem eqQ (s : Nat → Nat) : ((((bA (s 0) : Nat) : Int) + ((maj (s 0) (s 1) (s 2) : Nat) : Int)) % 4294967296) = ((tU s : Nat) : Int) := by
 unfold tU add; omega
def put8 (w : World) (b a0 a1 a2 a3 a4 a5 a6 a7 : Nat) : World :=
 (((((((w.setCell ⟨b, 0, none⟩ (.int .u32 a0)).setCell ⟨b, 1, none⟩ (.int .u32 a1)).setCell ⟨b, 2, none⟩ (.int .u32 a2)).setCell ⟨b, 3, none⟩ (.int .u32 a3)).setCell ⟨b, 4, none⟩ (.int .u32 a4)).setCell ⟨b, 5, none⟩ (.int .u32 a5)).setCell ⟨b, 6, none⟩ (.int .u32 a6)).setCell ⟨b, 7, none⟩ (.int .u32 a7)
def of8 (a0 a1 a2 a3 a4 a5 a6 a7 : Nat) : Nat → Nat
 | 0 => a0
 | 1 => a1
 | 2 => a2
 | 3 => a3
 | 4 => a4
 | 5 => a5
 | 6 => a6
 | _ => a7
theorem put8_row {w : World} {b : Nat} {f : Nat → Nat} (h : Row32 w b 8 f) (a0 a1 a2 a3 a4 a5 a6 a7 : Nat) : Row32 (put8 w b a0 a1 a2 a3 a4 a5 a6 a7) b 8 (of8 a0 a1 a2 a3 a4 a5 a6 a7) := by
 refine ((((((((h.set 0 a0).set 1 a1).set 2 a2).set 3 a3).set 4 a4).set 5 a5).set 6 a6).set 7 a7).congr ?_
 intro j hj
 match j, hj with
 | 0, _ => rfl
 | 1, _ => rfl
 | 2, _ => rfl
 | 3, _ => rfl
 | 4, _ => rfl
 | 5, _ => rfl
 | 6, _ => rfl
 | 7, _ => rfl
theorem put8_other {w : World} {b b' n : Nat} {f : Nat → Nat} (h : Row32 w b' n f) (hb : b ≠ b') (a0 a1 a2 a3 a4 a5 a6 a7 : Nat) : Row32 (put8 w b a0 a1 a2 a3 a4 a5 a6 a7) b' n f :=
 (((((((h.other (a := ⟨b, 0, none⟩) hb _).other (a := ⟨b, 1, none⟩) hb _).other (a := ⟨b, 2, none⟩) hb _).other (a := ⟨b, 3, none⟩) hb _).other (a := ⟨b, 4, none⟩) hb _).other (a := ⟨b, 5, none⟩) hb _).other (a := ⟨b, 6, none⟩) hb _).other (a := ⟨b, 7, none⟩) hb _
theorem put8_below {w0 w : World} {B b : Nat} (h : Below B w0 w) (hb : B ≤ b) (a0 a1 a2 a3 a4 a5 a6 a7 : Nat) : Below B w0 (put8 w b a0 a1 a2 a3 a4 a5 a6 a7) :=
 (((((((h.setCell (p := ⟨b, 0, none⟩) hb _).setCell (p := ⟨b, 1, none⟩) hb _).setCell (p := ⟨b, 2, none⟩) hb _).setCell (p := ⟨b, 3, none⟩) hb _).setCell (p := ⟨b, 4, none⟩) hb _).setCell (p := ⟨b, 5, none⟩) hb _).setCell (p := ⟨b, 6, none⟩) hb _).setCell (p := ⟨b, 7, none⟩) hb _
def addTo (st s : Nat → Nat) (k j : Nat) : Nat := if j < k then add (st j) (s j) else st j
theorem addTo_zero (st s : Nat → Nat) (j : Nat) : addTo st s 0 j = st j := by unfold addTo; rw [if_neg (by omega)]
theorem addTo_at (st s : Nat → Nat) (k : Nat) : addTo st s k k = st k := by unfold addTo; rw [if_neg (by omega)]
theorem addTo_in (st s : Nat → Nat) {k j : Nat} (h : j < k) : addTo st s k j = add (st j) (s j) := by unfold addTo; rw [if_pos h]
theorem addTo_step (st s : Nat → Nat) (k j : Nat) : (if j = k then add (st k) (s k) else addTo st s k j) = addTo st s (k + 1) j := by
 unfold addTo
 by_cases e : j = k
 ·subst e; rw [if_pos rfl, if_pos (by omega)]
 ·rw [if_neg e]
  by_cases h : j < k
  ·rw [if_pos h, if_pos (by omega)]
  ·rw [if_neg h, if_neg (by omega)]
theorem zero8 (w : World) (t : TypeId) (b : Nat) (hb : b = w.heap.size) : Row32 (w.alloc (Obj.cells #[Value.int IntKind.u32 0, Value.int IntKind.u32 0, Value.int IntKind.u32 0, Value.int IntKind.u32 0, Value.int IntKind.u32 0, Value.int IntKind.u32 0, Value.int IntKind.u32 0, Value.int IntKind.u32 0] t)) b 8 (fun _ => 0) :=
 row_box w 8 (fun _ => 0) t b hb
theorem mix_any (s f : Nat → Nat) (w : World) (hs : ∀ j, s j < 4294967296) (hf : ∀ j, f j < 4294967296) (ht : Table w) :
  Calls Tryz.prog 130 #[.agg (cells32 8 s).toArray, .agg (cells32 64 f).toArray] w fun e w' => e = .returned (.agg (cells32 8 (after f s)).toArray) ∧ Below w.heap.size w w' := by
 have HS := Hd hs
 have HF := Hd hf
 have HT := Hd ht
 clear hs hf ht
 have hu := Tryz.underlying183
 have hi1 : (Tryz.prog.info? 183).map (·.size) = some (cells32 8 s).length := by rw [cells32_len]; kernel_rfl
 have hi2 : (Tryz.prog.info? 183).map (·.size) = some (cells32 8 s).toArray.size := by rw [show (cells32 8 s).toArray.size = 8 by simp [cells32_len]]; kernel_rfl
 go_enter Tryz.func130, Tryz.ntmps130
 have hA : Row32 (((w.alloc (.cells (cells32 8 s).toArray 183)).alloc (.cells (cells32 64 f).toArray 187)).alloc (.cells #[Value.int IntKind.u32 0, Value.int IntKind.u32 0, Value.int IntKind.u32 0, Value.int IntKind.u32 0, Value.int IntKind.u32 0, Value.int IntKind.u32 0, Value.int IntKind.u32 0, Value.int IntKind.u32 0] 183)) w.heap.size 8 s := (((row_box w 8 s 183 _ rfl).alloc (by simp) _ _).alloc (by simp; omega) _ _)
 have hB : Row32 (((w.alloc (.cells (cells32 8 s).toArray 183)).alloc (.cells (cells32 64 f).toArray 187)).alloc (.cells #[Value.int IntKind.u32 0, Value.int IntKind.u32 0, Value.int IntKind.u32 0, Value.int IntKind.u32 0, Value.int IntKind.u32 0, Value.int IntKind.u32 0, Value.int IntKind.u32 0, Value.int IntKind.u32 0] 183)) (w.heap.size + 1) 64 f := ((row_box _ 64 f 187 _ (by simp)).alloc (by simp) _ _)
 have hC : Row32 (((w.alloc (.cells (cells32 8 s).toArray 183)).alloc (.cells (cells32 64 f).toArray 187)).alloc (.cells #[Value.int IntKind.u32 0, Value.int IntKind.u32 0, Value.int IntKind.u32 0, Value.int IntKind.u32 0, Value.int IntKind.u32 0, Value.int IntKind.u32 0, Value.int IntKind.u32 0, Value.int IntKind.u32 0] 183)) (w.heap.size + 1 + 1) 8 (fun _ => 0) := zero8 _ _ _ (by simp)
 have hb3 : Below w.heap.size w (((w.alloc (.cells (cells32 8 s).toArray 183)).alloc (.cells (cells32 64 f).toArray 187)).alloc (.cells #[Value.int IntKind.u32 0, Value.int IntKind.u32 0, Value.int IntKind.u32 0, Value.int IntKind.u32 0, Value.int IntKind.u32 0, Value.int IntKind.u32 0, Value.int IntKind.u32 0, Value.int IntKind.u32 0] 183)) := (((Below.refl _ _).alloc (Nat.le_refl _) _).alloc (by simp) _).alloc (by simp; omega) _
 have hX := zero8 (((w.alloc (.cells (cells32 8 s).toArray 183)).alloc (.cells (cells32 64 f).toArray 187)).alloc (.cells #[Value.int IntKind.u32 0, Value.int IntKind.u32 0, Value.int IntKind.u32 0, Value.int IntKind.u32 0, Value.int IntKind.u32 0, Value.int IntKind.u32 0, Value.int IntKind.u32 0, Value.int IntKind.u32 0] 183)) 183 (w.heap.size + 1 + 1 + 1) (by simp)
 have hA' := Hd hA
 have hB' := Hd hB
 have hC' := Hd hC
 have hb3' := Hd hb3
 have hX' := Hd hX
 clear hA hB hC hb3 hX
 go_wp2_with (first | (refine wpList_load_mid rfl 183 _ rfl w.heap.size 0 rfl (cells32 8 s) _ (by exact (uh hA').range) hu rfl hi1 ?_) | (refine wpList_store_mid rfl 183 _ _ rfl (w.heap.size + 1 + 1 + 1) 0 _ rfl rfl (by rw [show (cells32 8 s).toArray.size = 8 by simp [cells32_len]]; exact (uh hX').there) hi2 (all_oneCell_toArray (cells32_one _ _)) ?_))
 go_loopw [6, 7, 8, 11] (fun _ _ _ i wr => ∃ k : Nat, k ≤ 64 ∧ i = .int .i64 k ∧ Row32 wr (w.heap.size + 1 + 1 + 1) 8 (rounds f s k) ∧ Row32 wr w.heap.size 8 s ∧ Row32 wr (w.heap.size + 1) 64 f ∧ Row32 wr (w.heap.size + 1 + 1) 8 (fun _ => 0) ∧ Below w.heap.size w wr)
  (fun _ _ _ i _ => 64 - (intOf i).toNat)
 case atStart =>
  refine ⟨0, Nat.zero_le _, rfl, (uh hX').stored, ((uh hA').alloc (by simp; omega) _ _).apart (by omega) _, ((uh hB').alloc (by simp) _ _).apart (by omega) _, ((uh hC').alloc (by simp) _ _).apart (by omega) _, below_setCells (by omega) _ _ ((uh hb3').alloc (by simp; omega) _)⟩
 case round =>
  clear hA' hB' hC' hb3' hX'
  obtain ⟨k, hk, rfl, hX, hA, hB, hC, hbel⟩ := hrel
  by_cases hlt : k < 64
  ·have hbd := rounds_lt (f := f) (uh HS) k
   have HN : Hid (rounds f s (k + 1) = rnd (kW k) (f k) (rounds f s k)) := rfl
   generalize rounds f s k = st at *
   have x0 := (hX 0 (by omega)).1
   have x1 := (hX 1 (by omega)).1
   have x2 := (hX 2 (by omega)).1
   have x3 := (hX 3 (by omega)).1
   have x4 := (hX 4 (by omega)).1
   have x5 := (hX 5 (by omega)).1
   have x6 := (hX 6 (by omega)).1
   have x7 := (hX 7 (by omega)).1
   have xk : wr.cell? ⟨1, k, none⟩ = some (.int .u32 (kW k)) := (hbel.cell (p := ⟨1, k, none⟩) (uh HT).1).trans ((uh HT).2 k hlt)
   have xf := (hB k hlt).1
   have b0 := hbd 0
   have b1 := hbd 1
   have b2 := hbd 2
   have b4 := hbd 4
   have b5 := hbd 5
   have b6 := hbd 6
   have hX' := Hd hX
   have hA' := Hd hA
   have hB' := Hd hB
   have hC' := Hd hC
   have hb' := Hd hbel
   have hk0 : (0 : Int) ≤ (k : Int) := by omega
   have hk1 : (k : Int) < 64 := by omega
   clear hX hA hB hC hbel hbd
   go_wp2_with fail
   go_quiet (first | (go_at_call 138; exact Calls.quiet_of_same (greatE_any _ _ b4)) | (go_at_call 139; exact Calls.quiet_of_same (choose_any _ _ _ _ b4 b5 b6)))
   generalize hwq : wr.drewN nq = wq
   have gX := hwq ▸ (uh hX').drewN nq
   have gA := hwq ▸ (uh hA').drewN nq
   have gB := hwq ▸ (uh hB').drewN nq
   have gC := hwq ▸ (uh hC').drewN nq
   have gb := hwq ▸ below_drewN (uh hb') nq
   clear hX' hA' hB' hC' hb' x0 x1 x2 x3 x4 x5 x6 x7 xk xf hwq
   have x0 := (gX 0 (by omega)).1
   have x1 := (gX 1 (by omega)).1
   have x2 := (gX 2 (by omega)).1
   have x3 := (gX 3 (by omega)).1
   have x4 := (gX 4 (by omega)).1
   have x5 := (gX 5 (by omega)).1
   have x6 := (gX 6 (by omega)).1
   have hX' := Hd gX
   have hA' := Hd gA
   have hB' := Hd gB
   have hC' := Hd gC
   have hb' := Hd gb
   clear gX gA gB gC gb
   go_wp2_with fail
   go_quiet (first | (go_at_call 140; exact Calls.quiet_of_same (greatA_any _ _ b0)) | (go_at_call 141; exact Calls.quiet_of_same (majority_any _ _ _ _ b0 b1 b2)))
   generalize hwp : wq.drewN nq = wp
   have gX := hwp ▸ (uh hX').drewN nq
   have gA := hwp ▸ (uh hA').drewN nq
   have gB := hwp ▸ (uh hB').drewN nq
   have gC := hwp ▸ (uh hC').drewN nq
   have gb := hwp ▸ below_drewN (uh hb') nq
   clear hX' hA' hB' hC' hb' x0 x1 x2 x3 x4 x5 x6 hwp
   have x0 := (gX 0 (by omega)).1
   have x1 := (gX 1 (by omega)).1
   have x2 := (gX 2 (by omega)).1
   have x3 := (gX 3 (by omega)).1
   have x4 := (gX 4 (by omega)).1
   have x5 := (gX 5 (by omega)).1
   have x6 := (gX 6 (by omega)).1
   have hX' := Hd gX
   have hA' := Hd gA
   have hB' := Hd gB
   have hC' := Hd gC
   have hb' := Hd gb
   clear gX gA gB gC gb
   have x7 := (uh hX' 7 (by omega)).1
   have z0 := (uh hX' 0 (by omega)).2
   have z1 := (uh hX' 1 (by omega)).2
   have z2 := (uh hX' 2 (by omega)).2
   have z3 := (uh hX' 3 (by omega)).2
   have z4 := (uh hX' 4 (by omega)).2
   have z5 := (uh hX' 5 (by omega)).2
   have z6 := (uh hX' 6 (by omega)).2
   have z7 := (uh hX' 7 (by omega)).2
   rw [eqP (kW k) (f k) st, eqQ st]
   generalize hP : tT (kW k) (f k) st = tp
   generalize hQ : tU st = tq
   have HP := Hd hP
   have HQ := Hd hQ
   clear hP hQ
   go_wp2_with fail
   rw [wadd, wadd]
   have hrow := put8_row (uh hX') (add tp tq) (st 0) (st 1) (st 2) (add (st 3) tp) (st 4) (st 5) (st 6)
   have hrow' : Row32 _ _ 8 (rounds f s (k + 1)) := hrow.congr (g := rounds f s (k + 1)) (by
    rw [uh HN]
    have e1 := uh HP
    have e2 := uh HQ
    subst e1 e2
    intro j hj
    match j, hj with
    | 0, _ => rfl
    | 1, _ => rfl
    | 2, _ => rfl
    | 3, _ => rfl
    | 4, _ => rfl
    | 5, _ => rfl
    | 6, _ => rfl
    | 7, _ => rfl)
   refine ⟨⟨k + 1, by omega, by go_num, hrow', put8_other (uh hA') (by omega) _ _ _ _ _ _ _ _, put8_other (uh hB') (by omega) _ _ _ _ _ _ _ _, put8_other (uh hC') (by omega) _ _ _ _ _ _ _ _, put8_below (uh hb') (by omega) _ _ _ _ _ _ _ _⟩, ?_⟩
   simp [intOf]; omega
  ·obtain rfl : k = 64 := by omega
   have hbd := rounds_lt (f := f) (uh HS) 64
   have HN : Hid (∀ j, after f s j = add (rounds f s 64 j) (s j)) := fun _ => rfl
   generalize rounds f s 64 = st at *
   go_wp2_with fail
   go_loopw [9, 68] (fun _ i wr => ∃ k : Nat, k ≤ 8 ∧ i = .int .i64 k ∧ Row32 wr (w.heap.size + 1 + 1 + 1) 8 (addTo st s k) ∧ Row32 wr w.heap.size 8 s ∧ Row32 wr (w.heap.size + 1 + 1) 8 (fun _ => 0) ∧ Below w.heap.size w wr)
    (fun _ i _ => 8 - (intOf i).toNat)
   case atStart => exact ⟨0, Nat.zero_le _, rfl, hX.congr (fun j _ => (addTo_zero st s j).symm), hA, hC, hbel⟩
   case round =>
    clear hX hA hB hC hbel
    obtain ⟨k, hk, rfl, hX, hA, hC, hbel⟩ := hrel
    by_cases hlt : k < 8
    ·have x1 := (hX k hlt).1
     have x2 := (hA k hlt).1
     have z1 := (hX k hlt).2
     rw [addTo_at] at x1
     have hX' := Hd hX
     have hA' := Hd hA
     have hC' := Hd hC
     have hb' := Hd hbel
     have hk0 : (0 : Int) ≤ (k : Int) := by omega
     have hk1 : (k : Int) < 8 := by omega
     have p1 := uadd (st k) (s k)
     clear hX hA hC hbel
     go_wp2_with fail
     refine wp_region_still_tail 8 (by kernel_rfl) (by kernel_rfl) ?_
     simp only [List.take_succ_cons, List.take_zero, List.drop_succ_cons, List.drop_zero]
     repeat still_step
     refine wpStill_nil ?_
     go_wp2_with fail
     have hst : Row32 _ _ 8 (addTo st s (k + 1)) := ((uh hX').set k (add (st k) (s k))).congr fun j _ => addTo_step st s k j
     refine ⟨?_, ?_⟩
     ·repeat (apply Exists.intro)
      refine ⟨?_, rfl⟩
      exact ⟨k + 1, by omega, by go_num, hst, (uh hA').other (a := ⟨w.heap.size + 1 + 1 + 1, k, none⟩) (by simp; omega) _, (uh hC').other (a := ⟨w.heap.size + 1 + 1 + 1, k, none⟩) (by simp) _, (uh hb').drew.setCell (by simp; omega) _⟩
     ·simp [intOf]; omega
    ·obtain rfl : k = 8 := by omega
     have HB := Hd hbel
     have hX2 : Row32 wr (w.heap.size + 1 + 1 + 1) 8 (after f s) := hX.congr fun j hj => by rw [uh HN j]; exact addTo_in st s hj
     have hr := hX2.range
     have ht : wr.there (w.heap.size + 1 + 1) 0 (cells32 8 (after f s)).toArray.size := by
      rw [show (cells32 8 (after f s)).toArray.size = 8 by simp [cells32_len]]; exact hC.there
     have hst := Hd (hC.stored (g := after f s))
     have hi3 : (Tryz.prog.info? 183).map (·.size) = some (cells32 8 (after f s)).length := by rw [cells32_len]; kernel_rfl
     have hi4 : (Tryz.prog.info? 183).map (·.size) = some (cells32 8 (after f s)).toArray.size := by rw [show (cells32 8 (after f s)).toArray.size = 8 by simp [cells32_len]]; kernel_rfl
     clear hX hA hC hbel hX2
     go_wp2_with (first | (refine wpList_load_mid rfl 183 _ rfl (w.heap.size + 1 + 1 + 1) 0 rfl _ _ hr hu rfl hi3 ?_) | (refine wpList_store_mid rfl 183 _ _ rfl (w.heap.size + 1 + 1) 0 _ rfl rfl (by exact ht) hi4 (all_oneCell_toArray (cells32_one _ _)) ?_))
     refine bodyPost_ret (v := .agg (cells32 8 (after f s)).toArray) (results_cell (p := 4) (ty := 183) (a := ⟨w.heap.size + 1 + 1, 0, none⟩) (by kernel_rfl) rfl (run_loadVar_mid _ _ 0 183 _ _ (uh hst).range hu rfl hi3)) rfl ⟨rfl, ?_⟩
     exact below_setCells (by omega) _ _ (uh HB)
def Row8 (w : World) (b n : Nat) (f : Nat → Int) : Prop := ∀ j, j < n → w.cell? ⟨b, j, none⟩ = some (.int .u8 (f j)) ∧ w.frozen? ⟨b, j, none⟩ = false
theorem Row8.congr {w : World} {b n : Nat} {f g : Nat → Int} (h : Row8 w b n f) (e : ∀ j, j < n → f j = g j) : Row8 w b n g := fun j hj => by rw [← e j hj]; exact h j hj
theorem Row8.set {w : World} {b n : Nat} {f : Nat → Int} (h : Row8 w b n f) (k : Nat) (x : Int) : Row8 (w.setCell ⟨b, k, none⟩ (.int .u8 x)) b n (fun j => if j = k then x else f j) := by
 intro j hj
 refine ⟨?_, by rw [World.frozen?_setCell]; exact (h j hj).2⟩
 by_cases e : j = k
 ·subst e; dsimp only; rw [if_pos rfl]; exact World.cell?_setCell_same w _ _ (h j hj).1
 ·dsimp only; rw [if_neg e, World.cell?_setCell_other w _ _ _ (fun h => e (by simpa using (congrArg Addr.off h).symm))]
  exact (h j hj).1
theorem Row8.below {w w' : World} {b n B : Nat} {f : Nat → Int} (h : Row8 w b n f) (hb : Below B w w') (hB : b < B) : Row8 w' b n f := fun j hj => by
 rw [hb.cell (p := ⟨b, j, none⟩) hB, hb.frozen (p := ⟨b, j, none⟩) hB]; exact h j hj
def upTo8 (k : Nat) (f : Nat → Int) (j : Nat) : Int := if j < k then f j else 0
theorem upTo8_step (k : Nat) (f : Nat → Int) (j : Nat) : (if j = k then f k else upTo8 k f j) = upTo8 (k + 1) f j := by
 unfold upTo8
 by_cases e : j = k
 ·subst e; rw [if_pos rfl, if_pos (by omega)]
 ·rw [if_neg e]
  by_cases h : j < k
  ·rw [if_pos h, if_pos (by omega)]
  ·rw [if_neg h, if_neg (by omega)]
theorem upTo8_in {k j : Nat} (f : Nat → Int) (h : j < k) : upTo8 k f j = f j := by unfold upTo8; rw [if_pos h]
theorem row8_box (w : World) (n : Nat) (f : Nat → Int) (t : TypeId) (b : Nat) (hb : b = w.heap.size) : Row8 (w.alloc (.cells ((List.range n).map fun j => Value.int .u8 (f j)).toArray t)) b n f := by
 subst hb
 intro j hj
 refine ⟨?_, by simp⟩
 rw [World.cell?_alloc_at _ _ _ _ rfl]
 simp [hj]
theorem zero32 (w : World) (t : TypeId) (b : Nat) (hb : b = w.heap.size) : Row8 (w.alloc (Obj.cells #[Value.int IntKind.u8 0, Value.int IntKind.u8 0, Value.int IntKind.u8 0, Value.int IntKind.u8 0, Value.int IntKind.u8 0, Value.int IntKind.u8 0, Value.int IntKind.u8 0, Value.int IntKind.u8 0, Value.int IntKind.u8 0, Value.int IntKind.u8 0, Value.int IntKind.u8 0, Value.int IntKind.u8 0, Value.int IntKind.u8 0, Value.int IntKind.u8 0, Value.int IntKind.u8 0, Value.int IntKind.u8 0, Value.int IntKind.u8 0, Value.int IntKind.u8 0, Value.int IntKind.u8 0, Value.int IntKind.u8 0, Value.int IntKind.u8 0, Value.int IntKind.u8 0, Value.int IntKind.u8 0, Value.int IntKind.u8 0, Value.int IntKind.u8 0, Value.int IntKind.u8 0, Value.int IntKind.u8 0, Value.int IntKind.u8 0, Value.int IntKind.u8 0, Value.int IntKind.u8 0, Value.int IntKind.u8 0, Value.int IntKind.u8 0] t)) b 32 (fun _ => 0) :=
 row8_box w 32 (fun _ => 0) t b hb

def byteOf (s : Nat → Nat) (i : Nat) : Int := ((s (i / 4) : Nat) : Int) / 2 ^ (24 - 8 * (i % 4)) % 256
def textL (s : Nat → Nat) : List Int := (List.range 32).map (byteOf s)
theorem textL_len (s : Nat → Nat) : (textL s).length = 32 := by simp [textL]
theorem textL_get (s : Nat → Nat) {i : Nat} (h : i < 32) : (textL s).getD i 0 = byteOf s i := by simp [textL, h]

theorem text_any (s : Nat → Nat) (w : World) (hs : ∀ j, s j < 4294967296) :
  Calls Tryz.prog 132 #[.agg (cells32 8 s).toArray] w fun e w' => e = .returned (.string (strOfNums (textL s))) ∧ Below w.heap.size w w' := by
 have HS := Hd hs
 clear hs
 go_enter Tryz.func132, Tryz.ntmps132
 go_wp2_with fail
 go_loopw [4, 5] (fun _ i wr => ∃ k : Nat, k ≤ 32 ∧ i = .int .i64 k ∧ Row8 wr (w.heap.size + 1) 32 (upTo8 k (byteOf s)) ∧ Row32 wr w.heap.size 8 s ∧ Below w.heap.size w wr)
  (fun _ i _ => 32 - (intOf i).toNat)
 case atStart =>
  refine ⟨0, Nat.zero_le _, rfl, (zero32 _ _ _ (by simp)).congr (fun j _ => rfl), (row_box w 8 s _ _ rfl).alloc (by simp) _ _, ((Below.refl _ _).alloc (Nat.le_refl _) _).alloc (by simp) _⟩
 case round =>
  obtain ⟨k, hk, rfl, hX, hA, hbel⟩ := hrel
  by_cases hlt : k < 32
  ·have x1 := (hA (k / 4) (by omega)).1
   have x2 := (hX k hlt).1
   have z2 := (hX k hlt).2
   have hsl := uh HS (k / 4)
   have hX' := Hd hX
   have hA' := Hd hA
   have hb' := Hd hbel
   have hk0 : (0 : Int) ≤ (k : Int) := by omega
   have hk1 : (k : Int) < 32 := by omega
   have hk2 : (0 : Int) ≤ (k : Int) / 4 := by omega
   have hk3 : (k : Int) / 4 < 8 := by omega
   clear hX hA hbel
   go_wp2_with fail
   have hst : Row8 _ _ 32 (upTo8 (k + 1) (byteOf s)) := ((uh hX').set k (byteOf s k)).congr fun j _ => upTo8_step k _ j
   refine ⟨⟨k + 1, by omega, by go_num, hst, (uh hA').other (a := ⟨w.heap.size + 1, k, none⟩) (by simp) _, (uh hb').setCell (by simp) _⟩, ?_⟩
   simp [intOf]; omega
  ·obtain rfl : k = 32 := by omega
   have hc := run_convert_bytes_arg (P := Tryz.prog) wr 80 5 Tryz.underlying80 Tryz.underlying5 (w.heap.size + 1) 0 32 32 (textL s) (textL_len s) (fun i hi => by rw [Nat.zero_add, (hX i hi).1, upTo8_in _ hi, textL_get s hi]) 9 Tryz.underlying9
   have hb' := Hd hbel
   clear hX hA hbel
   go_wp2_with fail
   go_ret
   exact ⟨rfl, uh hb'⟩
def padLen (n : Nat) : Nat := (n + 72) / 64 * 64
def lenByte (n i : Nat) : Int := (n : Int) * 8 / 2 ^ (8 * i) % 256
def padK (l : List Int) (k j : Nat) : Int :=
 if j < l.length then l.getD j 0 else if j = l.length then 128 else if padLen l.length - k ≤ j then lenByte l.length (padLen l.length - 1 - j) else 0
def padAt (l : List Int) (j : Nat) : Int := padK l 8 j
theorem padLen_ge (n : Nat) : n + 9 ≤ padLen n := by unfold padLen; omega
theorem padK_step (l : List Int) (k j : Nat) (hk : k < 8) (hj : j < padLen l.length) :
  (if j = padLen l.length - 1 - k then lenByte l.length k else padK l k j) = padK l (k + 1) j := by
 have := padLen_ge l.length
 unfold padK
 by_cases e : j = padLen l.length - 1 - k
 ·subst e
  rw [if_pos rfl, if_neg (by omega), if_neg (by omega), if_pos (by omega)]
  rw [show padLen l.length - 1 - (padLen l.length - 1 - k) = k by omega]
 ·rw [if_neg e]
  by_cases h1 : j < l.length
  ·rw [if_pos h1, if_pos h1]
  ·rw [if_neg h1, if_neg h1]
   by_cases h2 : j = l.length
   ·rw [if_pos h2, if_pos h2]
   ·rw [if_neg h2, if_neg h2]
    by_cases h3 : padLen l.length - k ≤ j
    ·rw [if_pos h3, if_pos (by omega)]
    ·rw [if_neg h3, if_neg (by omega)]
theorem padK_zero (l : List Int) (j : Nat) (hj : j < padLen l.length) : (if j = l.length then 128 else if j < l.length then l.getD j 0 else 0) = padK l 0 j := by
 unfold padK
 by_cases h1 : j < l.length
 ·rw [if_neg (by omega), if_pos h1, if_pos h1]
 ·rw [if_neg h1, if_neg h1]
  by_cases h2 : j = l.length
  ·rw [if_pos h2, if_pos h2]
  ·rw [if_neg h2, if_neg h2, if_neg (by omega)]
theorem own_full {w : World} {base e g n : Nat} {xs : List Value} (h : w.ownsRow base e 1 (.slice (some ⟨g, 0, none⟩) n n) n xs) : w.heap[g]? = some (.cells xs.toArray e (0, 0)) := by
 obtain ⟨hl, ⟨h', _⟩ | ⟨g', cap, cur, h', hb, hg, hn, hc, hz, ht⟩⟩ := h
 ·simp at h'
 ·simp only [Value.slice.injEq, Option.some.injEq, Addr.mk.injEq, and_true, true_and] at h'
  obtain ⟨rfl, rfl⟩ := h'
  rw [hg]
  have : cur.toList = xs := by
   rw [← ht]
   exact (List.take_of_length_le (by rw [Array.length_toList, hz]; exact Nat.le_refl _)).symm
  rw [← this]
theorem copied_row {w : World} {g N : Nat} {l : List Int} (hN : l.length ≤ N)
  (h : w.heap[g]? = some (.cells (splice (List.replicate N (Value.int .u8 0)) 0 (l.map (Value.int .u8))).toArray 5 (0, 0))) : Row8 w g N (fun j => if j < l.length then l.getD j 0 else 0) := by
 intro j hj
 refine ⟨?_, frozen_of_row w g j _ 5 h⟩
 rw [cell_of_row w g j _ 5 (0, 0) h]
 simp only [splice, List.getElem?_toArray, List.take_zero, List.nil_append, Nat.zero_add, List.length_map]
 by_cases hjl : j < l.length
 ·rw [if_pos hjl, List.getElem?_append_left (by simpa using hjl)]
  simp [List.getD, hjl]
 ·rw [if_neg hjl, List.getElem?_append_right (by simp; omega), List.getElem?_drop, List.getElem?_replicate, if_pos (by simp; omega)]

theorem own_zero {w : World} {base g n : Nat} (h : w.ownsRow base 5 1 (.slice (some ⟨g, 0, none⟩) n n) n (madeCells (Value.int .u8 0).cells (n * 1)).toList) :
  w.heap[g]? = some (.cells (List.replicate n (Value.int .u8 0)).toArray 5 (0, 0)) := by
 have hfull := own_full h
 rw [show (Value.int IntKind.u8 0).cells = #[Value.int IntKind.u8 0] from rfl, Nat.mul_one, toList_madeCells_one] at hfull
 exact hfull
theorem made_below {w w1 : World} (hg : w.grownBy w1 none) : Below w.heap.size w w1 := (Below.refl _ _).grown hg (Nat.le_refl _) (fun k h => by cases h)
theorem bytes_one (l : List Int) : ∀ v ∈ l.map (Value.int .u8), v.oneCell' = true := by
 intro v hv
 simp only [List.mem_map] at hv
 obtain ⟨x, _, rfl⟩ := hv
 rfl
theorem copy_src {w w1 : World} {a : Option Addr} {l : List Int} {g : Nat} (hc : l.length = 0 ∨ ∃ b off, a = some ⟨b, off, none⟩ ∧ b < w.heap.size ∧ ∀ i, i < l.length → w.cell? ⟨b, off + i, none⟩ = some (.int .u8 (l.getD i 0))) (hb1 : Below w.heap.size w w1) :
  0 < (l.map (Value.int .u8)).length → some (⟨g, 0, none⟩ : Addr) = some ⟨g, 0, none⟩ ∧ ∃ ad, a = some ad ∧ ∀ j v, (l.map (Value.int .u8))[j]? = some v → w1.cell? (ad.add j) = some v := by
 intro h0
 rcases hc with h | ⟨b, off, rfl, hblk, hcell⟩
 ·simp at h0; omega
 ·refine ⟨rfl, _, rfl, fun j v hv => ?_⟩
  have hj : j < l.length := by have := (List.getElem?_eq_some_iff.1 hv).1; simpa using this
  rw [show (⟨b, off, none⟩ : Addr).add j = ⟨b, off + j, none⟩ by unfold Addr.add; split <;> simp_all]
  rw [hb1.cell (p := ⟨b, off + j, none⟩) hblk, hcell j hj, ← hv]
  simp [List.getD, hj]
theorem pad_any (v : Value) (l : List Int) (w : World) (h : Bytes w v l) (hs : l.length ≤ 65536) :
  Calls Tryz.prog 129 #[v] w fun e w' => ∃ g, e = .returned (.slice (some ⟨g, 0, none⟩) (padLen l.length) (padLen l.length)) ∧ w.heap.size ≤ g ∧ g < w'.heap.size ∧ Row8 w' g (padLen l.length) (padAt l) ∧ Below w.heap.size w w' := by
 obtain ⟨a, cap, rfl, hm, hc, hr⟩ := h
 obtain ⟨i0, hi, hz0, hz1, hz2⟩ := info_parts info5
 have HC := Hd hc
 clear hc hr hm
 have hNle : padLen l.length ≤ 65700 := by unfold padLen; omega
 have hNge := padLen_ge l.length
 have hNe : ((l.length : Int) + 1 + 8 + 64 - 1) / 64 * 64 = (padLen l.length : Int) := by unfold padLen; omega
 go_enter Tryz.func129, Tryz.ntmps129
 have hinfo : (Tryz.prog.info? 5).map (·.size) = some 1 := by kernel_rfl
 go_wp2_with (first | (at_make; refine wpList_make_full _ rfl _ _ 80 rfl w.heap.size 5 i0 _ 1 Tryz.underlying80 hi hz0 hz1 .i64 .i64 _ _ (padLen l.length) rfl rfl rfl rfl (by rw [hz2]; omega) (by unfold maxLen; omega) (Nat.le_refl _) ?_; intro w1 hown1 hg1) | (refine wpList_copy_splice rfl _ _ 80 80 rfl 5 Tryz.underlying80 hinfo _ _ _ _ _ _ rfl rfl w.heap.size 0 _ 5 (own_zero hown1) (l.map (Value.int .u8)) (by rw [List.length_map]; exact (Nat.min_eq_left (by omega)).symm) (copy_src (uh HC) (made_below hg1)) (by simp; omega) (bytes_one l) w.heap.size w (made_below hg1) (Nat.le_refl _) ?_; intro w2 hrow2 hb2; have hR := Hd (copied_row (l := l) (N := padLen l.length) (by omega) hrow2.out); have cc := (uh hR l.length (by omega)).1; have zz := (uh hR l.length (by omega)).2))
 have HB := Hd hb2
 have hblk : w.heap.size < w2.heap.size := World.block_lt_of_cell? w2 _ cc
 have hP0 : Row8 (w2.setCell ⟨w.heap.size, l.length, none⟩ (.int .u8 128)) w.heap.size (padLen l.length) (padK l 0) := ((uh hR).set l.length 128).congr fun j hj => padK_zero l j hj
 have HP0 := Hd hP0
 clear hP0 hb2 hrow2 hR cc zz hown1 hg1
 go_loopw [6, 28] (fun _ i wr => ∃ k : Nat, k ≤ 8 ∧ i = .int .i64 k ∧ Row8 wr w.heap.size (padLen l.length) (padK l k) ∧ w.heap.size < wr.heap.size ∧ Below w.heap.size w wr)
  (fun _ i _ => 8 - (intOf i).toNat)
 case atStart => exact ⟨0, Nat.zero_le _, rfl, uh HP0, by simpa using hblk, (uh HB).setCell (by simp) _⟩
 case round =>
  clear HP0 HB hblk
  obtain ⟨k, hk, rfl, hX, hblk, hbel⟩ := hrel
  by_cases hlt : k < 8
  ·have c1 := (hX (padLen l.length - 1 - k) (by omega)).1
   have z1 := (hX (padLen l.length - 1 - k) (by omega)).2
   have hX' := Hd hX
   have hb' := Hd hbel
   have hk0 : (0 : Int) ≤ (k : Int) := by omega
   have hk1 : (k : Int) < 8 := by omega
   have hidx : (padLen l.length : Int) - 1 - (k : Int) = ((padLen l.length - 1 - k : Nat) : Int) := by omega
   have hi0' : (0 : Int) ≤ ((padLen l.length - 1 - k : Nat) : Int) := by omega
   have hi1' : ((padLen l.length - 1 - k : Nat) : Int) < (padLen l.length : Int) := by omega
   clear hX hbel
   go_wp2_with fail
   have hst : Row8 _ _ (padLen l.length) (padK l (k + 1)) := ((uh hX').set (padLen l.length - 1 - k) (lenByte l.length k)).congr fun j hj => padK_step l k j hlt hj
   refine ⟨⟨k + 1, by omega, by go_num, hst, by simpa using hblk, (uh hb').setCell (by simp) _⟩, ?_⟩
   simp [intOf]; omega
  ·obtain rfl : k = 8 := by omega
   have HX := Hd hX
   have hb' := Hd hbel
   clear hX hbel
   go_wp2_with fail
   go_ret
   exact ⟨w.heap.size, rfl, Nat.le_refl _, hblk, uh HX, uh hb'⟩
end Go.Proofs.YtbchnheinnileaaGreatDoor.Sha
