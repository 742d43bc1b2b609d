/- What the proof of the claim needs (joined by program): BrVi BrPw. -/
import Derived.Test.YtnhhnjmjodmacaaGreatDoorQaa13
import Derived.Test.YtnhhnjmjodmacaaGreatDoorQaa12
import Derived.RangeFuncNested
import Derived.RangeFuncBound
import Derived.RangeFuncCalls
import Derived.RangeFuncLeaves
import Derived.RangeFuncFrom
import Derived.Shelf.Abstract
import Derived.Shelf.RegionOpen
import Derived.WalkKit
import Derived.OwnWalkIn
import Derived.TacticsInMore
import Derived.LoopNIn
import Derived.LoopIn
namespace Go.Proofs.YtnhhnjmjodmacaaGreatDoor.Sha
set_option maxRecDepth 100000
set_option maxHeartbeats 8000000
open Go.ChangeShapes Go.WideShapes Go.ChangeAt Go.RowKit Go.Shelf
set_option linter.unusedVariables false
set_option linter.unusedSimpArgs false
attribute [local go_sem] Oper.semAt_some
abbrev LfA (w0 : World) (n₀ : Nat) := { x : Nat × ByteArray × ByteArray // x.1 < n₀ ∧ w0.cell? ⟨x.1, 0, none⟩ = some (.string x.2.1) ∧ w0.cell? ⟨x.1, 1, none⟩ = some (.string x.2.2) ∧ x.2.1.size ≤ 24 ∧ x.2.2.size ≤ 60 }
inductive LT (w0 : World) (n₀ : Nat) where
 | leaf (x : LfA w0 n₀)
 | fork (a : Nat) (l r : LT w0 n₀)
def LT.list {w0 : World} {n₀ : Nat} : LT w0 n₀ → List (LfA w0 n₀)
 | .leaf x => [x]
 | .fork _ l r => l.list ++ r.list
def IsLT {w0 : World} {n₀ : Nat} (W : World) : Nat → LT w0 n₀ → Prop
 | p, .leaf x => p = x.1.1 ∧ W.cell? ⟨p, 3, none⟩ = some (.int .i64 256)
 | p, .fork a l r => p < n₀ ∧ a < 256 ∧ W.cell? ⟨p, 3, none⟩ = some (.int .i64 a) ∧ ∃ pl pr, W.cell? ⟨p, 4, none⟩ = some (.pointer (some ⟨pl, 0, none⟩)) ∧ W.cell? ⟨p, 5, none⟩ = some (.pointer (some ⟨pr, 0, none⟩)) ∧ IsLT W pl l ∧ IsLT W pr r
theorem IsLT.below {w0 A B : World} {n₀ : Nat} (h : Below n₀ A B) : ∀ {T : LT w0 n₀} {p : Nat}, IsLT A p T → IsLT B p T
 | .leaf x, p, ⟨h1, h2⟩ => ⟨h1, (h.cell (p := ⟨p, 3, none⟩) (by rw [h1]; exact x.2.1)).trans h2⟩
 | .fork a l r, p, ⟨h0, h1, h2, pl, pr, h3, h4, h5, h6⟩ => ⟨h0, h1, (h.cell (p := ⟨p, 3, none⟩) h0).trans h2, pl, pr, (h.cell (p := ⟨p, 4, none⟩) h0).trans h3, (h.cell (p := ⟨p, 5, none⟩) h0).trans h4, h5.below h, h6.below h⟩
theorem wide_room (k : Nat) : Fence.wide.room k := fun d h => by cases h
theorem yield_wide {m : Nat} (m' : Nat) {P : Program} {l : Nat} {args : Array Value} {W : World} {R : Ending → World → Prop} (h : YieldAt Fence.wide m P l args W R) : YieldAt Fence.wide m' P l args W R := by
 obtain ⟨fn, tmps, asg, bd, hy, hR⟩ := h
 exact ⟨fn, tmps, asg, bd, hy, hR.1, fun c cs _ => hR.2 c cs (wide_room _)⟩
def Tr.lvs : Tr → List (ByteArray × ByteArray)
 | .leaf k v => [(k, v)]
 | .fork _ _ l r => l.lvs ++ r.lvs
theorem lt_of_nd {w : World} {S : Nat → Prop} {p : Nat} {t : Tr} (h : Nd w S p t) : TrOK t → ∃ T : LT w w.heap.size, IsLT w p T ∧ T.list.map (fun x => x.1.2) = t.lvs := by
 induction h with
 | leaf S p k v h0 h1 => intro ho; exact ⟨.leaf ⟨(p, k, v), h1.1, h1.cell 0 rfl, h1.cell 1 rfl, (okK_iff.1 ho.1).2, ho.2⟩, ⟨rfl, h1.cell 3 rfl⟩, rfl⟩
 | fork S Sl Sr p a h l r pl pr h0 h1 h2 h3 h4 h5 h6 i1 i2 =>
  intro ho
  obtain ⟨T1, a1, b1⟩ := i1 ho.2.2.1
  obtain ⟨T2, a2, b2⟩ := i2 ho.2.2.2
  exact ⟨.fork a T1 T2, ⟨h4.1, ho.1, h4.cell 3 rfl, pl, pr, h4.cell 4 rfl, h4.cell 5 rfl, a1, a2⟩, by simp only [LT.list, List.map_append, b1, b2]; rfl⟩
theorem visit_in {w0 : World} {n₀ : Nat} (l N : Nat) (J Jx : List (LfA w0 n₀) → World → Prop)
  (hY : ∀ m pre x W, J pre W → pre.length < N → YieldAt Fence.wide m Tryz.prog l #[.pointer (some ⟨x.1.1, 0, none⟩)] W fun e W' =>
   (e = .returned (.bool true) ∧ J (pre ++ [x]) W' ∧ Below n₀ W W') ∨ (e = .returned (.bool false) ∧ Jx (pre ++ [x]) W')) (T : LT w0 n₀) :
  ∀ (n : Nat) (p : Nat) (pre : List (LfA w0 n₀)) (W : World), IsLT W p T → J pre W → pre.length + T.list.length ≤ N →
   CallsIn Fence.wide n Tryz.prog 159 #[.pointer (some ⟨p, 0, none⟩), .func (.yield l) #[] #[]] W fun e W' =>
    (e = .returned (.bool true) ∧ J (pre ++ T.list) W' ∧ Below n₀ W W') ∨ (e = .returned (.bool false) ∧ ∃ q, q <+: T.list ∧ Jx (pre ++ q) W') := by
 induction T with
 | leaf x =>
  intro n p pre W ht hJ hN
  obtain ⟨rfl, c3⟩ := ht
  obtain ⟨fn, tmps, asg, bd, hy, hR⟩ := hY (n - 1) pre x W hJ (by simp [LT.list] at hN; omega)
  refine callsIn_of_wp Tryz.func159 rfl trivial ?_ rfl
  simp only [Tryz.ntmps159, List.size_toArray, List.length_cons, List.length_nil, Nat.reduceAdd, Nat.reduceSub, Array.replicate_succ, Array.replicate_zero, List.push_toArray, List.append_toArray, List.nil_append, List.cons_append]
  gi_wp2
  refine ⟨fun h => (by cases h), ?_⟩
  refine hR.mono ?_
  rintro e W2 (⟨rfl, hJ2, hb2⟩ | ⟨rfl, hx2⟩)
  ·gi_wp2
   go_ret
   exact .inl ⟨rfl, hJ2, hb2⟩
  ·gi_wp2
   go_ret
   exact .inr ⟨rfl, [x], List.prefix_refl _, hx2⟩
 | fork a tl tr ihl ihr =>
  intro n p pre W ht hJ hN
  obtain ⟨h0, ha, c3, pl, pr, c4, c5, hl, hr⟩ := ht
  simp only [LT.list, List.length_append] at hN
  have hdd : ∀ k : Nat, (Fence.wide.depth.isSome = true → 1 ≤ k) := fun k h => by cases h
  have hab : ((a : Int) == 256) = false := by rw [beq_eq_false_iff_ne]; omega
  have ih1 := (ihl (n - 1) pl pre W hl hJ (by omega)).mono (R' := fun e W1 =>
    (e = .returned (.bool true) ∧ W1.cell? ⟨p, 5, none⟩ = some (.pointer (some ⟨pr, 0, none⟩)) ∧ J (pre ++ tl.list) W1 ∧ Below n₀ W W1 ∧ IsLT W1 pr tr) ∨
    (e = .returned (.bool false) ∧ ∃ q, q <+: tl.list ∧ Jx (pre ++ q) W1))
   (fun e W1 h => h.elim (fun ⟨he, hj, hb1⟩ => .inl ⟨he, (hb1.cell (p := ⟨p, 5, none⟩) h0).trans c5, hj, hb1, hr.below hb1⟩) .inr)
  clear ihl
  refine callsIn_of_wp Tryz.func159 rfl trivial ?_ rfl
  simp only [Tryz.ntmps159, List.size_toArray, List.length_cons, List.length_nil, Nat.reduceAdd, Nat.reduceSub, Array.replicate_succ, Array.replicate_zero, List.push_toArray, List.append_toArray, List.nil_append, List.cons_append]
  gi_wp2_with (first
   | (refine ⟨trivial, ?_⟩; (try refine ⟨hdd _, ?_⟩); gi_at_call 159; refine ih1.mono ?_; clear ih1; rintro e W1 (⟨rfl, c5', hJ1, hb1, hr1⟩ | ⟨rfl, q, hq, hx1⟩))
   | (refine ⟨trivial, ?_⟩; (try refine ⟨hdd _, ?_⟩); gi_at_call 159; refine (ihr (n - 1) pr _ _ hr1 hJ1 (by simp; omega)).mono ?_; rintro e W3 (⟨rfl, hJ3, hb3⟩ | ⟨rfl, q, hq, hx3⟩)))
  ·go_ret
   exact .inl ⟨rfl, by simpa [LT.list, List.append_assoc] using hJ3, hb1.trans hb3⟩
  ·go_ret
   obtain ⟨r, hr'⟩ := hq
   exact .inr ⟨rfl, tl.list ++ q, ⟨r, by simp [LT.list, ← hr']⟩, by simpa [List.append_assoc] using hx3⟩
  ·refine ⟨trivial, ?_⟩
   gi_wp2
   go_ret
   exact .inr ⟨rfl, q, hq.trans (by simp [LT.list]), hx1⟩
theorem visit_nil (l n : Nat) (W : World) :
  CallsIn Fence.wide n Tryz.prog 159 #[.pointer none, .func (.yield l) #[] #[]] W fun e W' => e = .returned (.bool true) ∧ W' = W := by
 refine callsIn_of_wp Tryz.func159 rfl trivial ?_ rfl
 simp only [Tryz.ntmps159, List.size_toArray, List.length_cons, List.length_nil, Nat.reduceAdd, Nat.reduceSub, Array.replicate_succ, Array.replicate_zero, List.push_toArray, List.append_toArray, List.nil_append, List.cons_append]
 gi_wp2
 go_ret
 exact ⟨rfl, rfl⟩
def IsLO {w0 : World} {n₀ : Nat} (W : World) : Option Addr → Option (LT w0 n₀) → Prop
 | pv, none => pv = none
 | pv, some T => ∃ p, pv = some ⟨p, 0, none⟩ ∧ IsLT W p T
def LO.list {w0 : World} {n₀ : Nat} : Option (LT w0 n₀) → List (LfA w0 n₀)
 | none => []
 | some T => T.list
theorem IsLO.below {w0 A B : World} {n₀ : Nat} (h : Below n₀ A B) {o : Option (LT w0 n₀)} {pv : Option Addr} (hl : IsLO A pv o) : IsLO B pv o := by
 cases o with
 | none => exact hl
 | some T => obtain ⟨p, h1, h2⟩ := hl; exact ⟨p, h1, h2.below h⟩
theorem leaves1_in {w0 : World} {n₀ : Nat} (n l Bt : Nat) (pv : Option Addr) (o : Option (LT w0 n₀)) (J Jx : List (LfA w0 n₀) → World → Prop)
  (hY : ∀ pre x W, J pre W → pre.length < (LO.list o).length → YieldAt Fence.wide (n - 1) Tryz.prog l #[.pointer (some ⟨x.1.1, 0, none⟩)] W fun e W' =>
   (e = .returned (.bool true) ∧ J (pre ++ [x]) W' ∧ Below n₀ W W') ∨ (e = .returned (.bool false) ∧ Jx (pre ++ [x]) W'))
  (W : World) (hBt : W.cell? ⟨Bt, 0, none⟩ = some (.pointer pv)) (hT : IsLO W pv o) (h0 : J [] W) :
  CallsIn Fence.wide n Tryz.prog 158 #[.func (.yield l) #[] #[], .pointer (some ⟨Bt, 0, none⟩)] W fun e W' => (∃ v, e = .returned v) ∧
   ((∃ ys, ys = LO.list o ∧ J ys W') ∨ (∃ pre, pre <+: LO.list o ∧ Jx pre W')) := by
 have hdd : ∀ k : Nat, (Fence.wide.depth.isSome = true → 1 ≤ k) := fun k h => by cases h
 cases o with
 | none =>
  obtain rfl : pv = none := hT
  have hp := visit_nil l (n - 1) W
  refine callsIn_of_wp Tryz.func158 rfl trivial ?_ rfl
  simp only [Tryz.ntmps158, List.size_toArray, List.length_cons, List.length_nil, Nat.reduceAdd, Nat.reduceSub, Array.replicate_succ, Array.replicate_zero, List.push_toArray, List.append_toArray, List.nil_append, List.cons_append]
  gi_wp2_with (refine ⟨trivial, ?_⟩; (try refine ⟨hdd _, ?_⟩); gi_at_call 159; refine hp.mono ?_; clear hp; rintro e W1 ⟨rfl, rfl⟩)
  go_end0
  exact ⟨⟨_, rfl⟩, .inl ⟨_, rfl, h0⟩⟩
 | some T =>
  obtain ⟨p, rfl, hT'⟩ := hT
  have hp := visit_in l T.list.length J Jx (fun m pre x W hj hl => yield_wide m (hY pre x W hj hl)) T (n - 1) p [] W hT' h0 (by simp)
  refine callsIn_of_wp Tryz.func158 rfl trivial ?_ rfl
  simp only [Tryz.ntmps158, List.size_toArray, List.length_cons, List.length_nil, Nat.reduceAdd, Nat.reduceSub, Array.replicate_succ, Array.replicate_zero, List.push_toArray, List.append_toArray, List.nil_append, List.cons_append]
  gi_wp2_with (refine ⟨trivial, ?_⟩; (try refine ⟨hdd _, ?_⟩); gi_at_call 159; refine hp.mono ?_; clear hp; rintro e W1 (⟨rfl, hJ1, _⟩ | ⟨rfl, q, hq, hx⟩))
  ·go_end0
   exact ⟨⟨_, rfl⟩, .inl ⟨_, rfl, by simpa [LO.list] using hJ1⟩⟩
  ·go_end0
   exact ⟨⟨_, rfl⟩, .inr ⟨q, hq, by simpa using hx⟩⟩
theorem leaves_in (n : Nat) (pv : Option Addr) (w : World) :
  CallsIn Fence.wide n Tryz.prog 150 #[.pointer pv] w fun e w' => e = .returned (.func (.func 158) #[] #[.pointer (some ⟨w.heap.size, 0, none⟩)]) ∧ w' = w.alloc (.cells #[.pointer pv] 88) := by
 refine callsIn_of_wp Tryz.func150 rfl trivial ?_ rfl
 simp only [Tryz.ntmps150, List.size_toArray, List.length_cons, List.length_nil, Nat.reduceAdd, Nat.reduceSub, Array.replicate_succ, Array.replicate_zero, List.push_toArray, List.append_toArray, List.nil_append, List.cons_append]
 gi_wp2
 go_ret
 exact ⟨rfl, rfl⟩
theorem leaves_stops {w0 : World} {n₀ : Nat} (n Bt : Nat) (pv : Option Addr) (o : Option (LT w0 n₀)) (w : World) (hBt : Bt < w.heap.size) (hn₀ : n₀ ≤ w.heap.size)
  (hc : w.cell? ⟨Bt, 0, none⟩ = some (.pointer pv)) (hT : IsLO w pv o) :
  SeqStopsK Fence.wide n Tryz.prog 158 #[.pointer (some ⟨Bt, 0, none⟩)] (fun x : LfA w0 n₀ => #[Value.pointer (some ⟨x.1.1, 0, none⟩)]) (Below n₀) (fun ys => ys = LO.list o) (fun pre => pre <+: LO.list o) (LO.list o).length w := fun l J Jx W hW _ _ hY h0 =>
 leaves1_in n l Bt pv o J Jx hY W ((hW.cell (p := ⟨Bt, 0, none⟩) hBt).trans hc) (hT.below (hW.mono hn₀)) h0
theorem box_cell (W : World) (v : Value) (t : TypeId) : (W.alloc (.cells #[v] t)).cell? ⟨W.heap.size, 0, none⟩ = some v ∧ (W.alloc (.cells #[v] t)).frozen? ⟨W.heap.size, 0, none⟩ = false :=
 have h := Blk.new W #[v] t W.heap.size rfl
 ⟨h.cell 0 rfl, h.fro 0⟩
theorem alloc_cell {W : World} {a : Addr} {v : Value} (o : Obj) (h : W.cell? a = some v) (hf : W.frozen? a = false) : (W.alloc o).cell? a = some v ∧ (W.alloc o).frozen? a = false :=
 ⟨cell_kept h (World.grownBy_alloc W o none) (fun r e => by cases e), (frozen_kept h (World.grownBy_alloc W o none) (fun r e => by cases e)).trans hf⟩
theorem size_in (n : Nat) (hn : 3 ≤ n) (pv : Option Addr) (w : World) (o : Option (LT w w.heap.size)) (hL : IsLO w pv o) (h40 : (LO.list o).length ≤ 1000) :
  CallsIn Fence.wide n Tryz.prog 142 #[.pointer pv] w fun e W' => e = .returned (.int .i64 (LO.list o).length) ∧ Below w.heap.size w W' := by
 have h1 : 1 ≤ n := by omega
 have hdd : ∀ k : Nat, (Fence.wide.depth.isSome = true → 1 ≤ k) := fun k h => by cases h
 refine callsIn_of_wp_marks Tryz.func142 rfl trivial ?_ rfl
 simp only [Tryz.ntmps142, List.size_toArray, List.length_cons, List.length_nil, Nat.reduceAdd, Nat.reduceSub, Array.replicate_succ, Array.replicate_zero, List.push_toArray, List.append_toArray, List.nil_append, List.cons_append]
 gi_wp2_with (refine ⟨trivial, ?_⟩; (try refine ⟨hdd _, ?_⟩); gi_at_call 150; refine (leaves_in (n - 1) _ _).mono ?_; rintro e w' ⟨rfl, rfl⟩)
 have hs := box_cell w (.int .i64 0) 3
 have hs2 := alloc_cell (.cells #[.pointer pv] 88) hs.1 hs.2
 have hb := box_cell (w.alloc (.cells #[.int .i64 0] 3)) (.pointer pv) 88
 rw [World.size_alloc] at hb
 have hB0 : Below w.heap.size w ((w.alloc (.cells #[.int .i64 0] 3)).alloc (.cells #[.pointer pv] 88)) := ((Below.refl _ w).alloc (Nat.le_refl _) _).alloc (by simp) _
 refine wpIn_rangeFunc_ownF rfl h1 (gf := 158) (lb := #[.pointer (some ⟨w.heap.size + 1, 0, none⟩)]) rfl trivial (enters_of Tryz.func158 (by kernel_rfl) rfl)
  (leaves_stops (n - 1) (w.heap.size + 1) pv o _ (by simp) (by simp; omega) hb.1 (hL.below hB0)) belowK_t (belowK_b (by simp; omega)) (Below.refl _ _) (fun _ => rfl)
  (fun pre W => (W.cell? ⟨w.heap.size, 0, none⟩ = some (.int .i64 pre.length) ∧ W.frozen? ⟨w.heap.size, 0, none⟩ = false) ∧ Below w.heap.size w W)
  (fun _ _ _ => False)
  (OwnFrom.and (Own.from (fun s A B row hs hg hr => ⟨cell_kept hs.1 hg hr, (frozen_kept hs.1 hg hr).trans hs.2⟩) _) (ownFrom_below (Nat.le_refl _) (by simp; omega)))
  (fun _ _ _ _ _ hs _ _ => hs)
  ⟨hs2, hB0⟩
  (fun x => { tmps := #[.pointer pv, undef, .int .i64 0, .pointer (some ⟨w.heap.size, 0, none⟩), .pointer pv, .func (.func 158) #[] #[.pointer (some ⟨w.heap.size + 1, 0, none⟩)], .pointer (some ⟨x.1.1, 0, none⟩), undef, undef, undef], defers := [] }) ?assign ?body ?done ?stop
 case assign =>
  intro l x W K hK
  gi_wp2
  first | exact hK | simpa using hK | simpa [Array.zip] using hK | (rw [List.zip_toArray]; simpa using hK)
 case body =>
  rintro l pre x W ⟨⟨hc, hf⟩, hB⟩ hlen
  have hle : pre.length + 1 ≤ 1000 := by omega
  have hw : wrap64 ((pre.length : Int) + 1) = ((pre ++ [x]).length : Int) := by unfold wrap64; simp; omega
  gi_wp2
  exact ⟨KeepsOthers.setCell _ _ _, (Below.refl w.heap.size W).setCell (p := ⟨w.heap.size, 0, none⟩) (Nat.le_refl _) _, ⟨by first | (rw [← hw]; exact World.cell?_setCell_same' _ _ _ (by rw [hc]; rfl)) | (rw [show ((pre ++ [x]).length : Int) = (pre.length : Int) + 1 by simp]; exact World.cell?_setCell_same' _ _ _ (by rw [hc]; rfl)), by rw [World.frozen?_setCell]; exact hf⟩, hB.setCell (p := ⟨w.heap.size, 0, none⟩) (Nat.le_refl _) _⟩
 case done =>
  rintro D ys W hD rfl ⟨⟨hc, _⟩, hB⟩ hK
  gi_wp2
  refine ⟨by simp, .inl ⟨_, _, rfl, run_takeDeferred hK, ?_⟩⟩
  exact ⟨_, results_tmp rfl _ _ _, rfl, hB.trans (belowK_b (w := w) (Nat.le_refl _) W D _ _ (by simp at hD; omega) hK rfl rfl)⟩
 case stop =>
  rintro D c pre W _ _ h _
  exact h.elim
theorem size_any {w : World} {S : Nat → Prop} {p : Nat} {t : Tr} (h : Nd w S p t) (ho : TrOK t) (h40 : t.lvs.length ≤ 1000) :
  Calls Tryz.prog 142 #[.pointer (some ⟨p, 0, none⟩)] w fun e w' => e = .returned (.int .i64 t.lvs.length) ∧ Below w.heap.size w w' := by
 obtain ⟨T, h1, h2⟩ := lt_of_nd h ho
 have hl : (LO.list (some T)).length = t.lvs.length := by rw [← h2]; simp [LO.list]
 have := callsIn_wide.1 (size_in 3 (Nat.le_refl _) _ w (some T) ⟨p, rfl, h1⟩ (by omega))
 rw [hl] at this
 exact this
end Go.Proofs.YtnhhnjmjodmacaaGreatDoor.Sha
namespace Go.Proofs.YtnhhnjmjodmacaaGreatDoor.Sha
set_option maxRecDepth 100000
set_option maxHeartbeats 8000000
open Go.ChangeShapes Go.WideShapes Go.ChangeAt Go.RowKit
set_option linter.unusedVariables false
set_option linter.unusedSimpArgs false
theorem with_end0 {w w1 w2 : World} {S Sl Sr : Nat → Prop} {p q a pr p' : Nat} {hv : ByteArray} {l' r : Tr} (hw : Below w.heap.size w w1) (hsz : w1.heap.size = w.heap.size) (hp : S p) (h1 : ∀ b, Sl b → S b ∧ b ≠ p) (h2 : ∀ b, Sr b → S b ∧ b ≠ p) (h3 : ∀ b, Sl b → ¬ Sr b) (hS : ∀ b, S b → b < w.heap.size) (hqS : ¬ S q)
  {pl : Nat} (X : Blk w1 p (fkC hv a pl pr)) (hr : Nd w1 Sr pr r) (hn : Nd w2 (fun b => Sl b ∨ b = q ∨ (w1.heap.size ≤ b ∧ b < w2.heap.size)) p' l') (hT : Touch Sl w1 w2) :
  WithR S q (.fork a hv l' r) w (.returned (.pointer (some ⟨p, 0, none⟩))) (w2.setCell ⟨p, 4, none⟩ (.pointer (some ⟨p', 0, none⟩))) := by
 have X2 := X.kept hT (fun e => (h1 p e).2 rfl)
 have XS := X2.set 4 (.pointer (some ⟨p', 0, none⟩)) (by simp [fkC])
 have tp := (Touch.refl (fun b => b = p) w2).setCell ⟨p, 4, none⟩ (.pointer (some ⟨p', 0, none⟩)) (fun _ => rfl)
 have hts := tp.size
 have hps := hS p hp
 have NK := hn.touch tp (fun b hb e => by
  rcases hb with hb | hb | hb
  ·exact (h1 b hb).2 e
  ·exact hqS (by rw [← hb, e]; exact hp)
  ·omega)
 have NO := (hr.touch hT (fun b hb e => h3 b e hb)).touch tp (fun b hb e => (h2 b hb).2 e)
 refine ⟨p, rfl, .fork _ (fun b => Sl b ∨ b = q ∨ (w1.heap.size ≤ b ∧ b < w2.heap.size)) Sr p a hv l' r p' pr (.inl hp) (fun b hb => ?_) (fun b hb => ⟨.inl (h2 b hb).1, (h2 b hb).2⟩) (fun b hb hr' => ?_) XS NK NO, ?_⟩
 ·rcases hb with hb | hb | hb
  ·exact ⟨.inl (h1 b hb).1, (h1 b hb).2⟩
  ·exact ⟨.inr (.inl hb), fun e => hqS (by rw [← hb, e]; exact hp)⟩
  ·exact ⟨.inr (.inr ⟨by omega, by omega⟩), by omega⟩
 ·rcases hb with hb | hb | hb
  ·exact h3 b hb hr'
  ·exact hqS (by rw [← hb]; exact (h2 b hr').1)
  ·have := hS b (h2 b hr').1
   omega
 ·exact ((Touch.ofBelow (T := S) hw).trans hT (fun b _ e => (h1 b e).1)).trans tp (fun b _ e => by rw [e]; exact hp)
theorem with_end1 {w w1 w2 : World} {S Sl Sr : Nat → Prop} {p q a pl p' : Nat} {hv : ByteArray} {l r' : Tr} (hw : Below w.heap.size w w1) (hsz : w1.heap.size = w.heap.size) (hp : S p) (h1 : ∀ b, Sl b → S b ∧ b ≠ p) (h2 : ∀ b, Sr b → S b ∧ b ≠ p) (h3 : ∀ b, Sl b → ¬ Sr b) (hS : ∀ b, S b → b < w.heap.size) (hqS : ¬ S q)
  {pr : Nat} (X : Blk w1 p (fkC hv a pl pr)) (hl : Nd w1 Sl pl l) (hn : Nd w2 (fun b => Sr b ∨ b = q ∨ (w1.heap.size ≤ b ∧ b < w2.heap.size)) p' r') (hT : Touch Sr w1 w2) :
  WithR S q (.fork a hv l r') w (.returned (.pointer (some ⟨p, 0, none⟩))) (w2.setCell ⟨p, 5, none⟩ (.pointer (some ⟨p', 0, none⟩))) := by
 have X2 := X.kept hT (fun e => (h2 p e).2 rfl)
 have XS := X2.set 5 (.pointer (some ⟨p', 0, none⟩)) (by simp [fkC])
 have tp := (Touch.refl (fun b => b = p) w2).setCell ⟨p, 5, none⟩ (.pointer (some ⟨p', 0, none⟩)) (fun _ => rfl)
 have hts := tp.size
 have hps := hS p hp
 have NK := hn.touch tp (fun b hb e => by
  rcases hb with hb | hb | hb
  ·exact (h2 b hb).2 e
  ·exact hqS (by rw [← hb, e]; exact hp)
  ·omega)
 have NO := (hl.touch hT (fun b hb e => h3 b hb e)).touch tp (fun b hb e => (h1 b hb).2 e)
 refine ⟨p, rfl, .fork _ Sl (fun b => Sr b ∨ b = q ∨ (w1.heap.size ≤ b ∧ b < w2.heap.size)) p a hv l r' pl p' (.inl hp) (fun b hb => ⟨.inl (h1 b hb).1, (h1 b hb).2⟩) (fun b hb => ?_) (fun b hl' hb => ?_) XS NO NK, ?_⟩
 ·rcases hb with hb | hb | hb
  ·exact ⟨.inl (h2 b hb).1, (h2 b hb).2⟩
  ·exact ⟨.inr (.inl hb), fun e => hqS (by rw [← hb, e]; exact hp)⟩
  ·exact ⟨.inr (.inr ⟨by omega, by omega⟩), by omega⟩
 ·rcases hb with hb | hb | hb
  ·exact h3 b hl' hb
  ·exact hqS (by rw [← hb]; exact (h1 b hl').1)
  ·have := hS b (h1 b hl').1
   omega
 ·exact ((Touch.ofBelow (T := S) hw).trans hT (fun b _ e => (h2 b e).1)).trans tp (fun b _ e => by rw [e]; exact hp)
theorem with_any (k v : ByteArray) (at_ : Nat) (hat : at_ ≤ 256) (hk : k.size ≤ 65536) : ∀ (t : Tr) (m : Nat) (w : World) (S : Nat → Prop) (p q : Nat), Nd w S p t → Rise m t → Sep t → TrOK t → (∀ b, S b → b < w.heap.size) → Blk w q (lfC k v) → ¬ S q → at_ = fd (kh (leadL (kh k) t).1) (kh k) →
  Calls Tryz.prog 147 #[.pointer (some ⟨p, 0, none⟩), .pointer (some ⟨q, 0, none⟩), .int .i64 at_] w fun e w' => WithR S q (putT (kh k) at_ k v t) w e w' := by
 intro t
 induction t with
 | leaf k' v' =>
  intro m w S p q hn hr hs ho hS hq hqS hfd
  have HNF := Hd (fun (ha : at_ < 256) => newFork_nd (a := at_) hn (hash_of_ok ho) hS hq hqS hk ha (by
   have h1 := ((fd_iff (kh (leadL (kh k) (.leaf k' v')).1) (kh k) at_ ha).1 hfd.symm).2
   exact fun e => h1 e.symm))
  cases hn with
  | leaf S p k' v' h0 h1 =>
   have x3 := h1.cell 3 rfl
   by_cases h256 : at_ = 256
   ·have HG : Hid (WithR S q (putT (kh k) at_ k v (.leaf k' v')) w (.returned (.pointer (some ⟨q, 0, none⟩))) w) := Hd (by
     unfold putT
     rw [if_pos h256]
     exact ⟨q, rfl, .leaf _ q k v (.inr (.inl rfl)) hq, Touch.refl _ _⟩)
    subst h256
    clear h1 hr hs ho hq hfd HNF
    go_enter Tryz.func147, Tryz.ntmps147
    go_wp2_with fail
    go_ret
    exact uh HG
   ·have HF := Hd (uh HNF (by omega))
    have HP : Hid (putT (kh k) at_ k v (.leaf k' v') = forkT at_ (kh k) k v (.leaf k' v')) := Hd (by conv => lhs; unfold putT; rw [if_neg h256])
    have hb1 : ¬ (256 : Int) < (at_ : Int) := by omega
    have hb2 : ((at_ : Int) == 256) = false := by rw [beq_eq_false_iff_ne]; omega
    clear h1 hr hs ho hq hfd HNF
    generalize forkT at_ (kh k) k v (.leaf k' v') = R at *
    go_enter Tryz.func147, Tryz.ntmps147
    go_wp2_with fail
    refine (uh HF).mono ?_
    rintro e w2 ⟨p2, rfl, h2⟩
    have HG : Hid (WithR S q (putT (kh k) at_ k v (.leaf k' v')) w (.returned (.pointer (some ⟨p2, 0, none⟩))) w2) := Hd (by rw [uh HP]; exact ⟨p2, rfl, h2⟩)
    clear h2
    go_wp2_with fail
    go_ret
    exact uh HG
 | fork a hv l r ihl ihr =>
  intro m w S p q hn hr hs ho hS hq hqS hfd
  have hbit := lead_bit (kh k) hr hs
  have HNF := Hd (fun (ha : at_ < a) => newFork_nd (a := at_) hn (hash_of_ok ho) hS hq hqS hk (by have := hr.2.1; omega) (by
   have h1 := ((fd_iff (kh (leadL (kh k) (.fork a hv l r)).1) (kh k) at_ (by have := hr.2.1; omega)).1 hfd.symm).2
   have h2 := lead_alike (kh k) (.fork a hv l r) m hr hs at_ ha
   exact fun e => h1 (h2.trans e.symm)))
  have hne : at_ ≠ a := fun e => by
   have h1 := ((fd_iff (kh (leadL (kh k) (.fork a hv l r)).1) (kh k) at_ (by have := hr.2.1; omega)).1 hfd.symm).2
   rw [e] at h1
   exact h1 hbit
  cases hn with
  | fork S Sl Sr p a hv l r pl pr h0 h1 h2 h3 h4 h5 h6 =>
   have x3 := h4.cell 3 rfl
   obtain ⟨r0, r1, r2, r3⟩ := hr
   by_cases hlt : a < at_
   ·have X := Hd h4
    have x4 := h4.cell 4 rfl
    have x5 := h4.cell 5 rfl
    have q2 := hq.cell 2 rfl
    have hlt' : (a : Int) < (at_ : Int) := by omega
    have HB := Hd (fun wx => hashBit_any (kh k) a wx (kh_size hk) r1)
    have HS := Hd (And.intro h0 (And.intro h1 (And.intro h2 (And.intro h3 (And.intro hS hqS)))))
    have HQ := Hd hq
    have HN5 := Hd h5
    have HN6 := Hd h6
    obtain ⟨s0, s1, s2, s3, s4⟩ := hs
    obtain ⟨o0, o1, o2, o3⟩ := ho
    rcases bitN_01 (kh k) a with hb | hb
    ·have HP : Hid (putT (kh k) at_ k v (.fork a hv l r) = .fork a hv (putT (kh k) at_ k v l) r) := Hd (by conv => lhs; unfold putT; rw [if_pos hlt, if_pos hb])
     have hfl : at_ = fd (kh (leadL (kh k) l).1) (kh k) := by rw [hfd]; conv => lhs; unfold leadL; rw [if_pos hb]
     have HC : Hid (∀ wx, Below w.heap.size w wx → wx.heap.size = w.heap.size → Calls Tryz.prog 147 #[.pointer (some ⟨pl, 0, none⟩), .pointer (some ⟨q, 0, none⟩), .int .i64 at_] wx fun e w' => WithR Sl q (putT (kh k) at_ k v l) wx e w') := Hd (fun wx hbx hsx => ihl _ wx Sl pl q ((uh HN5).blw hbx) r2 s3 o2 (fun b hb => by rw [hsx]; exact hS b (h1 b hb).1) ((uh HQ).below hbx) (fun e => hqS (h1 q e).1) hfl)
     rw [hb] at HB
     clear h1 h2 h3 h4 h5 h6 h0 hS hqS hq hbit HNF hne hfd hfl ihl ihr s0 s1 s2 s3 s4 o0 o1 o2 o3 r0 r2 r3
     generalize putT (kh k) at_ k v l = D at *
     generalize putT (kh k) at_ k v (.fork a hv l r) = R at *
     generalize kh k = hh at *
     go_enter Tryz.func147, Tryz.ntmps147
     go_wp2_with fail
     go_quiet ((go_at_call 114; exact Calls.quiet_of_same (uh HB _)))
     have BD := Hd (below_drewN (Below.refl w.heap.size w) nq)
     have X1 := (uh X).below (uh BD)
     have y4 := X1.cell 4 rfl
     have g4 := X1.fro 4
     have HX1 := Hd X1
     have HE : Hid ((w.drewN nq).heap.size = w.heap.size) := rfl
     clear x3 x4 x5 q2 X1
     generalize w.drewN nq = w1 at *
     go_wp2_with fail
     go_region_law ((go_simp; go_at_call 147; refine (uh HC _ (below_drewN (uh BD) 1) (uh HE)).mono ?_; rintro e w2 ⟨p2, rfl, hn2, hT2⟩; (have X2 := ((uh HX1).drewN 1).kept hT2 (fun e => ((uh HS).2.1 p e).2 rfl)); (have z4 := X2.cell 4 rfl); (have h4 := X2.fro 4); go_simp))
     all_goals
      have HG := Hd (with_end0 (q := q) (below_drewN (uh BD) 1) (uh HE) (uh HS).1 (uh HS).2.1 (uh HS).2.2.1 (uh HS).2.2.2.1 (uh HS).2.2.2.2.1 (uh HS).2.2.2.2.2 ((uh HX1).drewN 1) ((uh HN6).blw (below_drewN (uh BD) 1)) hn2 hT2)
      rw [← uh HP] at HG
      clear hn2 hT2 X2 z4 h4
      go_wp2_with fail
      go_ret
      exact uh HG
    ·have HP : Hid (putT (kh k) at_ k v (.fork a hv l r) = .fork a hv l (putT (kh k) at_ k v r)) := Hd (by conv => lhs; unfold putT; rw [if_pos hlt, if_neg (by omega)])
     have hfl : at_ = fd (kh (leadL (kh k) r).1) (kh k) := by rw [hfd]; conv => lhs; unfold leadL; rw [if_neg (by omega)]
     have HC : Hid (∀ wx, Below w.heap.size w wx → wx.heap.size = w.heap.size → Calls Tryz.prog 147 #[.pointer (some ⟨pr, 0, none⟩), .pointer (some ⟨q, 0, none⟩), .int .i64 at_] wx fun e w' => WithR Sr q (putT (kh k) at_ k v r) wx e w') := Hd (fun wx hbx hsx => ihr _ wx Sr pr q ((uh HN6).blw hbx) r3 s4 o3 (fun b hb => by rw [hsx]; exact hS b (h2 b hb).1) ((uh HQ).below hbx) (fun e => hqS (h2 q e).1) hfl)
     rw [hb] at HB
     clear h1 h2 h3 h4 h5 h6 h0 hS hqS hq hbit HNF hne hfd hfl ihl ihr s0 s1 s2 s3 s4 o0 o1 o2 o3 r0 r2 r3
     generalize putT (kh k) at_ k v r = D at *
     generalize putT (kh k) at_ k v (.fork a hv l r) = R at *
     generalize kh k = hh at *
     go_enter Tryz.func147, Tryz.ntmps147
     go_wp2_with fail
     go_quiet ((go_at_call 114; exact Calls.quiet_of_same (uh HB _)))
     have BD := Hd (below_drewN (Below.refl w.heap.size w) nq)
     have X1 := (uh X).below (uh BD)
     have y5 := X1.cell 5 rfl
     have g5 := X1.fro 5
     have HX1 := Hd X1
     have HE : Hid ((w.drewN nq).heap.size = w.heap.size) := rfl
     clear x3 x4 x5 q2 X1
     generalize w.drewN nq = w1 at *
     go_wp2_with fail
     go_region_law ((go_simp; go_at_call 147; refine (uh HC _ (below_drewN (uh BD) 1) (uh HE)).mono ?_; rintro e w2 ⟨p2, rfl, hn2, hT2⟩; (have X2 := ((uh HX1).drewN 1).kept hT2 (fun e => ((uh HS).2.2.1 p e).2 rfl)); (have z4 := X2.cell 5 rfl); (have h4 := X2.fro 5); go_simp))
     all_goals
      have HG := Hd (with_end1 (q := q) (below_drewN (uh BD) 1) (uh HE) (uh HS).1 (uh HS).2.1 (uh HS).2.2.1 (uh HS).2.2.2.1 (uh HS).2.2.2.2.1 (uh HS).2.2.2.2.2 ((uh HX1).drewN 1) ((uh HN5).blw (below_drewN (uh BD) 1)) hn2 hT2)
      rw [← uh HP] at HG
      clear hn2 hT2 X2 z4 h4
      go_wp2_with fail
      go_ret
      exact uh HG
   ·have HF := Hd (uh HNF (by omega))
    have HP : Hid (putT (kh k) at_ k v (.fork a hv l r) = forkT at_ (kh k) k v (.fork a hv l r)) := Hd (by conv => lhs; unfold putT; rw [if_neg hlt])
    have hb1 : ¬ (a : Int) < (at_ : Int) := by omega
    have hb2 : ((at_ : Int) == 256) = false := by rw [beq_eq_false_iff_ne]; omega
    clear h1 h2 h3 h4 h5 h6 h0 hS hqS hq hbit HNF hne hfd ihl ihr hs ho r0 r2 r3
    generalize forkT at_ (kh k) k v (.fork a hv l r) = R at *
    go_enter Tryz.func147, Tryz.ntmps147
    go_wp2_with fail
    refine (uh HF).mono ?_
    rintro e w2 ⟨p2, rfl, h2⟩
    have HG : Hid (WithR S q (putT (kh k) at_ k v (.fork a hv l r)) w (.returned (.pointer (some ⟨p2, 0, none⟩))) w2) := Hd (by rw [uh HP]; exact ⟨p2, rfl, h2⟩)
    clear h2
    go_wp2_with fail
    go_ret
    exact uh HG
end Go.Proofs.YtnhhnjmjodmacaaGreatDoor.Sha
