/- What the proof of the claim needs (joined by program): ApI ApL ApE. -/
import Derived.Test.YtlbcdngidfjogaaGreatDoorQba00
import Derived.Test.YtlbcdngidfjogaaGreatDoorQba10
import Derived.Test.YtlbcdngidfjogaaGreatDoorQba06
import Derived.Test.YtlbcdngidfjogaaGreatDoorQba08
import Derived.Lib.AppendZerosOnto
import Derived.Laws.Externs
import Derived.Deep.AppendLies
import Derived.Deep.RegionLaw
namespace Go.Proofs.YtlbcdngidfjogaaGreatDoor
set_option maxRecDepth 100000
set_option maxHeartbeats 8000000
open Go.ChangeShapes Go.WideShapes Go.ChangeAt Go.RowKit Go.Deep
set_option linter.unusedVariables false
set_option linter.unusedSimpArgs false
theorem sesC_take : ∀ (ss : List Se) (q : Nat), sesC (ss.take q) = (sesC ss).take (q * 5)
 | [], q => by simp [sesC]
 | s :: r, 0 => by simp [sesC]
 | s :: r, q + 1 => by
  have e : ∀ (s : Se) (r : List Se), sesC (s :: r) = seC s ++ sesC r := fun _ _ => by simp [sesC]
  have hl : (seC s).length = 5 := rfl
  rw [List.take_succ_cons, e, e, sesC_take r q, show (q + 1) * 5 = (seC s).length + q * 5 by rw [hl]; omega, List.take_length_add_append]
theorem sesC_drop : ∀ (ss : List Se) (q : Nat), sesC (ss.drop q) = (sesC ss).drop (q * 5)
 | [], q => by simp [sesC]
 | s :: r, 0 => by simp [sesC]
 | s :: r, q + 1 => by
  have e : ∀ (s : Se) (r : List Se), sesC (s :: r) = seC s ++ sesC r := fun _ _ => by simp [sesC]
  have hl : (seC s).length = 5 := rfl
  rw [List.drop_succ_cons, e, sesC_drop r q, show (q + 1) * 5 = (seC s).length + q * 5 by rw [hl]; omega, List.drop_length_add_append]
theorem sesC_ins (ss : List Se) (q : Nat) (s : Se) : sesC (insS ss q s) = (sesC ss).take (q * 5) ++ (seC s ++ (sesC ss).drop (q * 5)) := by
 unfold insS
 rw [sesC_app, ← sesC_take, ← sesC_drop]
 simp [sesC]
theorem sesC_del (ss : List Se) (q : Nat) : sesC (delS ss q) = (sesC ss).take (q * 5) ++ (sesC ss).drop ((q + 1) * 5) := by
 unfold delS
 rw [sesC_app, ← sesC_take, ← sesC_drop]
theorem seC_one (s : Se) : ∀ v ∈ seC s, v.oneCell' = true := by
 intro v hs
 simp only [seC, List.mem_cons, List.not_mem_nil, or_false] at hs
 rcases hs with rfl | rfl | rfl | rfl | rfl <;> rfl
theorem sizeSe_ (w : World) : (Go.sizeOf 77).run Tryz.prog w = .ok 5 w := by kernel_rfl
def InsR (B : Nat) (ob : Option Nat) (l : List Se) (w : World) (e : Ending) (w' : World) : Prop :=
 ∃ v', e = .returned v' ∧ OwnSe B w' v' l ∧ (v'.ownBlock = ob ∨ ∃ g, v'.ownBlock = some g ∧ w.heap.size ≤ g) ∧ Touch (fun k => ob = some k) w w'
theorem row_two (L S C : List Value) (a : Nat) (h : a + S.length ≤ L.length) (D : List Value) :
  ((((L.take (a + S.length) ++ C ++ D).take a) ++ S) ++ (L.take (a + S.length) ++ C ++ D).drop (a + S.length)).take (a + S.length + C.length) = L.take a ++ (S ++ C) := by
 have hl : (L.take (a + S.length)).length = a + S.length := by rw [List.length_take]; omega
 have e1 : (L.take (a + S.length) ++ C ++ D).take a = L.take a := by
  rw [List.append_assoc, List.take_append_of_le_length (by omega), List.take_take, show min a (a + S.length) = a by omega]
 have e2 : (L.take (a + S.length) ++ C ++ D).drop (a + S.length) = C ++ D := by
  rw [List.append_assoc, List.drop_left' hl]
 have e3 : (L.take a ++ (S ++ C)).length = a + S.length + C.length := by
  simp only [List.length_append, List.length_take]; omega
 rw [e1, e2, List.append_assoc, ← List.append_assoc S, ← List.append_assoc, List.take_left' e3]
theorem row_three (L S C : List Value) (a : Nat) (h : a + S.length ≤ L.length) (D E : List Value) :
  (((L.take a ++ S ++ D).take (a + S.length) ++ C) ++ E).take (a + S.length + C.length) = L.take a ++ (S ++ C) := by
 have hl : (L.take a ++ S).length = a + S.length := by simp only [List.length_append, List.length_take]; omega
 have e3 : (L.take a ++ S ++ C).length = a + S.length + C.length := by simp only [List.length_append, List.length_take]; omega
 rw [List.take_left' hl, List.take_left' e3, List.append_assoc]
theorem cur_cells {cur : Array Value} {xs : List Value} {m : Nat} (h : cur.toList.take m = xs) (j : Nat) (hj : j < m) : cur[j]? = xs[j]? := by
 rw [← h, List.getElem?_take_of_lt hj, Array.getElem?_toList]
theorem insert_end (B : Nat) (sv : Value) (ss : List Se) (s : Se) (vb : Nat) (w : World) (hO : OwnSe B w sv ss) (hX : w.heap[vb]? = some (.cells #[.int .i64 s.id, .int .i64 s.sq, .int .i64 s.kd, .int .i64 s.pl, .string s.vl] 77 (0, 0))) (hB : B ≤ w.heap.size) (hs : ss.length ≤ 1000) :
  Calls Tryz.prog 41 #[sv, .int .i64 ss.length, .slice (some ⟨vb, 0, none⟩) 1 1] w fun e w' => InsR B sv.ownBlock (insS ss ss.length s) w e w' := by
 obtain ⟨i0, hi, hz0, hz1, hz2⟩ := info_parts infoSe
 have hvl := World.news_of_block (cs := #[Value.int .i64 s.id, .int .i64 s.sq, .int .i64 s.kd, .int .i64 s.pl, .string s.vl]) hX
 have hshape : ∃ a c, sv = .slice a ss.length c ∧ ss.length ≤ c ∧ c ≤ maxLen := by
  rcases hO.2 with ⟨rfl, h0⟩ | ⟨g, cap, cur, rfl, _, _, h3, h4, _⟩
  ·exact ⟨none, 0, by rw [h0], by omega, by unfold maxLen; omega⟩
  ·exact ⟨_, _, rfl, h3, h4⟩
 obtain ⟨a, c, rfl, hc1, hc2⟩ := hshape
 unfold maxLen at hc2
 have HL := Hd (sesC_ins ss ss.length s)
 have HO := Hd hO
 clear hO
 obtain ⟨ob, hob⟩ : ∃ ob, ob = (Value.slice a ss.length c).ownBlock := ⟨_, rfl⟩
 rw [← hob]
 have HOB := Hd hob
 clear hob
 have b1 : ((ss.length : Int) == (ss.length : Int)) = true := by simp
 go_enter Tryz.func41, Tryz.ntmps41
 go_wp2_with (at_builtin; refine wpList_append_lies _ rfl _ _ 40 rfl B 77 i0 _ 5 48 Tryz.underlying40 hi hz0 hz1 hz2 rfl (by omega) (.slice a ss.length c) ss.length _ rfl (uh HO) ⟨vb, 0, none⟩ 1 1 [_, _, _, _, _] rfl rfl hvl (by simp [Value.oneCell']) (by omega) (by unfold maxLen; omega) (by omega) hB _ rfl ?_; intro g5 cap5 w5 hown5 hgrow5 hat5 hlt5; have R5 := Hd (And.intro hown5 (And.intro hgrow5 hat5)); clear hown5 hgrow5 hat5 hlt5)
 all_goals
  refine bodyPost_ret (v := .slice (some ⟨g5, 0, none⟩) (ss.length + 1) cap5) (by simp [results, Tryz.results41, go_sem]) rfl ?_
  obtain ⟨hown5, hgrow5, hat5⟩ := uh R5
  rw [← uh HOB] at hgrow5 hat5
  refine ⟨_, rfl, ?_, ?_, (Touch.refl _ w).grown hgrow5 (fun k e _ => e)⟩
  ·unfold OwnSe
   rw [insS_len _ _ _ (Nat.le_refl _), uh HL]
   have e1 : (sesC ss).take (ss.length * 5) = sesC ss := List.take_of_length_le (Nat.le_of_eq (sesC_len ss))
   have e2 : (sesC ss).drop (ss.length * 5) = [] := List.drop_eq_nil_of_le (Nat.le_of_eq (sesC_len ss))
   rw [e1, e2, List.append_nil]
   exact hown5
  ·rcases hat5 with h | h
   ·exact .inl h.symm
   ·exact .inr ⟨g5, rfl, by omega⟩
theorem own_cur {B g cap n : Nat} {w : World} {xs : List Value} (hO : w.ownsRow B 77 5 (.slice (some ⟨g, 0, none⟩) n cap) n xs) : ∃ cur, w.heap[g]? = some (.cells cur 77 (0, 0)) ∧ cap ≤ maxLen ∧ n ≤ cap ∧ cur.size = cap * 5 ∧ cur.toList.take (n * 5) = xs ∧ B ≤ g := by
 rcases hO.2 with ⟨h, _⟩ | ⟨g', cap', cur, e, h1, h2, h3, h4, h5, h6⟩
 ·cases h
 ·simp only [Value.slice.injEq, Option.some.injEq, Addr.mk.injEq, and_true, true_and] at e
  obtain ⟨rfl, rfl⟩ := e
  exact ⟨cur, h2, h4, h3, h5, h6, h1⟩
theorem insert_room (B g cap : Nat) (ss : List Se) (q : Nat) (s : Se) (vb : Nat) (w : World) (hO : OwnSe B w (.slice (some ⟨g, 0, none⟩) ss.length cap) ss) (hX : w.heap[vb]? = some (.cells #[.int .i64 s.id, .int .i64 s.sq, .int .i64 s.kd, .int .i64 s.pl, .string s.vl] 77 (0, 0))) (hB : B ≤ w.heap.size) (hs : ss.length ≤ 1000) (hq : q < ss.length) (hroom : ss.length + 1 ≤ cap) (hvb : vb ≠ g) :
  Calls Tryz.prog 41 #[.slice (some ⟨g, 0, none⟩) ss.length cap, .int .i64 q, .slice (some ⟨vb, 0, none⟩) 1 1] w fun e w' => InsR B (some g) (insS ss q s) w e w' := by
 obtain ⟨i0, hi, hz0, hz1, hz2⟩ := info_parts infoSe
 have hsz : (Tryz.prog.info? 77).map (·.size) = some 5 := by rw [hi]; simp [hz1]
 have hlen := sesC_len ss
 have HL := Hd (sesC_ins ss q s)
 obtain ⟨cur, hg, hcm, _, hcs, htk, hBg⟩ := own_cur hO
 clear hO
 unfold maxLen at hcm
 have hov : ∀ lb cb, (callFunc 51 #[.slice (some ⟨vb, 0, none⟩) 1 1, .slice (some ⟨g, (q + 1) * 5, none⟩) lb cb]).run Tryz.prog w = .ok (.value (.bool false)) w := fun lb cb => by
  rw [run_callFunc_extern Tryz.func51 (by kernel_rfl) (by kernel_rfl) (by kernel_rfl) (e := Extern.SlicesOverlaps.overlaps #[40, 40] #[4]) (by kernel_rfl),
   Lib.run_overlaps_apart w 40 4 77 Tryz.underlying40 5 sizeSe_ ⟨vb, 0, none⟩ ⟨g, (q + 1) * 5, none⟩ 1 1 lb cb hvb 77 77 5 (cap * 5) (by simp [World.shape?, hX]) (by simp [World.shape?, hg, hcs]) (by omega) (by simp [World.frozen?, hX]) (by simp [World.frozen?, hX])]
  rfl
 have hcl : ((sesC ss).drop (q * 5)).length = (ss.length - q) * 5 := by rw [List.length_drop, hlen]; omega
 have hmin : Nat.min (ss.length + 1 - q) (ss.length - q) = ss.length - q := by simp only [Nat.min_def]; split <;> omega
 have hmin2 : Nat.min 1 (ss.length + 1 - q) = 1 := by simp only [Nat.min_def]; split <;> omega
 obtain ⟨R1, hR1⟩ : ∃ R1 : List Value, R1 = cur.toList.take ((q + 1) * 5) ++ (sesC ss).drop (q * 5) ++ cur.toList.drop ((q + 1) * 5 + ((sesC ss).drop (q * 5)).length) := ⟨_, rfl⟩
 have hcp1 : ∀ ty dc sc, (Builtin.copy_ #[40, 40] ty #[.slice (some ⟨g, (q + 1) * 5, none⟩) (ss.length - q) dc, .slice (some ⟨g, q * 5, none⟩) (ss.length + 1 - q) sc]).run Tryz.prog w.drew = .ok (goInt ((ss.length - q : Nat) : Int)) (w.drew.setRow g R1.toArray) := fun ty dc sc => by
  have h := run_copy_rows (P := Tryz.prog) w.drew 40 40 ty 77 5 g ((q + 1) * 5) (ss.length - q) dc ⟨g, q * 5, none⟩ (ss.length + 1 - q) sc cur 77 ((sesC ss).drop (q * 5)) Tryz.underlying40 hsz hg (by rw [hcl, hmin]) (fun j v hj => by
   have hjl : j < (ss.length - q) * 5 := by rw [← hcl]; exact (List.getElem?_eq_some_iff.1 hj).1
   rw [List.getElem?_drop] at hj
   rw [Addr.add_lit]
   show w.cell? _ = _
   simp only [World.cell?, hg]
   rw [cur_cells htk _ (by omega)]
   exact hj) (by rw [hcl, hcs]; omega) (fun v hv => sesC_one ss v (List.mem_of_mem_drop hv))
  rw [hmin, ← hR1] at h
  exact h
 have hW1 : (w.drew.setRow g R1.toArray).heap[g]? = some (.cells R1.toArray 77 (0, 0)) := setRow_heap w.drew g cur R1.toArray 77 (0, 0) hg
 have hX1 : (w.drew.setRow g R1.toArray).heap[vb]? = some (.cells #[.int .i64 s.id, .int .i64 s.sq, .int .i64 s.kd, .int .i64 s.pl, .string s.vl] 77 (0, 0)) := (setRow_other w.drew g vb R1.toArray hvb).trans hX
 have hRl : R1.length = cap * 5 := by
  rw [hR1]
  simp only [List.length_append, List.length_take, List.length_drop, Array.length_toList, hcs, hlen]
  omega
 obtain ⟨R2, hR2⟩ : ∃ R2 : List Value, R2 = R1.take (q * 5) ++ seC s ++ R1.drop (q * 5 + 5) := ⟨_, rfl⟩
 have hcp2 : ∀ ty dc, (Builtin.copy_ #[40, 40] ty #[.slice (some ⟨g, q * 5, none⟩) (ss.length + 1 - q) dc, .slice (some ⟨vb, 0, none⟩) 1 1]).run Tryz.prog (w.drew.setRow g R1.toArray) = .ok (goInt 1) ((w.drew.setRow g R1.toArray).setRow g R2.toArray) := fun ty dc => by
  have h := run_copy_rows (P := Tryz.prog) (w.drew.setRow g R1.toArray) 40 40 ty 77 5 g (q * 5) (ss.length + 1 - q) dc ⟨vb, 0, none⟩ 1 1 R1.toArray 77 (seC s) Tryz.underlying40 hsz hW1 (by rw [hmin2]; rfl) (World.news_of_block hX1) (by show q * 5 + 5 ≤ R1.toArray.size; rw [List.size_toArray, hRl]; omega) (seC_one s)
  rw [hmin2] at h
  have e5 : (seC s).length = 5 := rfl
  have h9 : R2 = R1.toArray.toList.take (q * 5) ++ seC s ++ R1.toArray.toList.drop (q * 5 + (seC s).length) := by rw [hR2, e5]
  rw [← h9] at h
  exact h
 have q1 : ¬ ((q : Int) = (ss.length : Int)) := by omega
 have q2 : ¬ ((cap : Int) < (ss.length : Int) + 1) := by omega
 have q3 : IntKind.i64.wrap ((q : Int) + 1) = (q : Int) + 1 := wrapSe _ (by omega) (by omega)
 have q4 : IntKind.i64.wrap ((ss.length : Int) + 1) = (ss.length : Int) + 1 := wrapSe _ (by omega) (by omega)
 have q5 : ((q : Int) + 1).toNat = q + 1 := by omega
 have q6 : ((ss.length : Int) + 1).toNat = ss.length + 1 := by omega
 have q7 : ¬ (cap = q + 1) := by omega
 have q9 : (0 : Int) ≤ (q : Int) + 1 := by omega
 have q10 : q ≤ ss.length := by omega
 have q11 : (q : Int) ≤ (ss.length : Int) + 1 := by omega
 have q8 : ¬ (cap = q) := by omega
 have HF := Hd (And.intro hR1 (And.intro hRl (And.intro hcs (And.intro htk (And.intro hcm (And.intro hBg hR2))))))
 have HW := Hd (And.intro hW1 hg)
 clear hR1 hRl hcs htk hcm hBg hW1 hX1 hg hX hcl hmin hmin2 hlen hR2
 go_enter Tryz.func41, Tryz.ntmps41
 go_wp2_with (simp only [hov])
 clear hov
 go_region_law (refine step_copy_rows rfl _ _ 40 40 rfl _ _ (by simp [Act.eval, Act.put]) (by simp [Act.eval, Act.put]) (hcp1 _ _ _) ?_)
 go_wp2_with (at_builtin; refine wpList_copy_rows _ rfl _ _ 40 40 rfl _ _ rfl rfl (hcp2 _ _) ?_)
 refine bodyPost_ret (v := .slice (some ⟨g, 0, none⟩) (ss.length + 1) cap) (by simp [results, Tryz.results41, go_sem]) rfl ?_
 obtain ⟨hR1, hRl, hcs, htk, hcm, hBg, hR2⟩ := uh HF
 obtain ⟨hW1, hg⟩ := uh HW
 have hlen := sesC_len ss
 refine ⟨_, rfl, ⟨?_, .inr ⟨g, cap, R2.toArray, ?_, hBg, setRow_heap (w.drew.setRow g R1.toArray) g R1.toArray _ 77 (0, 0) hW1, ?_, by unfold maxLen; omega, ?_, ?_⟩⟩, .inl rfl, ⟨rfl, rfl, rfl, by simp [World.setRow], fun k hk hn => ?_⟩⟩
 ·rw [sesC_len]
 ·rw [insS_len _ _ _ (by omega)]
 ·rw [insS_len _ _ _ (by omega)]; exact hroom
 ·rw [List.size_toArray, hR2]
  simp only [List.length_append, List.length_take, List.length_drop, hRl]
  have : (seC s).length = 5 := rfl
  omega
 ·rw [insS_len _ _ _ (by omega), uh HL]
  have h5 : (seC s).length = 5 := rfl
  have hrt := row_two cur.toList (seC s) ((sesC ss).drop (q * 5)) (q * 5) (by have := cur.length_toList; omega) (cur.toList.drop ((q + 1) * 5 + ((sesC ss).drop (q * 5)).length))
  have htk2 : cur.toList.take (q * 5) = (sesC ss).take (q * 5) := by rw [← htk, List.take_take, show min (q * 5) (ss.length * 5) = q * 5 by omega]
  rw [h5, show q * 5 + 5 = (q + 1) * 5 by omega, ← hR1, htk2] at hrt
  rw [hR2, show q * 5 + 5 = (q + 1) * 5 by omega, show (ss.length + 1) * 5 = (q + 1) * 5 + ((sesC ss).drop (q * 5)).length by rw [List.length_drop, hlen]; omega]
  simpa using hrt
 ·have hne : k ≠ g := fun e => hn (by rw [e])
  rw [setRow_other _ _ _ _ hne, setRow_other _ _ _ _ hne]
  rfl
theorem insert_grow (B g cap : Nat) (ss : List Se) (q : Nat) (s : Se) (vb : Nat) (w : World) (hO : OwnSe B w (.slice (some ⟨g, 0, none⟩) ss.length cap) ss) (hX : w.heap[vb]? = some (.cells #[.int .i64 s.id, .int .i64 s.sq, .int .i64 s.kd, .int .i64 s.pl, .string s.vl] 77 (0, 0))) (hB : B ≤ w.heap.size) (hs : ss.length ≤ 1000) (hq : q < ss.length) (hroom : cap < ss.length + 1) :
  Calls Tryz.prog 41 #[.slice (some ⟨g, 0, none⟩) ss.length cap, .int .i64 q, .slice (some ⟨vb, 0, none⟩) 1 1] w fun e w' => InsR B (some g) (insS ss q s) w e w' := by
 obtain ⟨i0, hi, hz0, hz1, hz2⟩ := info_parts infoSe
 have hsz : (Tryz.prog.info? 77).map (·.size) = some 5 := by rw [hi]; simp [hz1]
 have hlen := sesC_len ss
 have HL := Hd (sesC_ins ss q s)
 obtain ⟨cur, hg, hcm, hnc, hcs, htk, hBg⟩ := own_cur hO
 clear hO
 unfold maxLen at hcm
 obtain rfl : cap = ss.length := by omega
 have hgl : g < w.heap.size := (Array.getElem?_eq_some_iff.1 hg).1
 have hvl : vb < w.heap.size := (Array.getElem?_eq_some_iff.1 hX).1
 have hcl : ((sesC ss).drop (q * 5)).length = (ss.length - q) * 5 := by rw [List.length_drop, hlen]; omega
 have hik : q + (ss.length + 1 - q) = ss.length + 1 := by omega
 have hkk : (ss.length : Int) + 1 - (q : Int) = ((ss.length + 1 - q : Nat) : Int) := by omega
 have hold : (Builtin.firstCells i0.size q (.slice (some ⟨g, 0, none⟩) q ss.length)).run Tryz.prog w.drew = .ok ((sesC ss).take (q * 5)).toArray w.drew := by
  rw [hz1]
  exact run_firstCells_some w.drew 5 q ⟨g, 0, none⟩ q ss.length ((sesC ss).take (q * 5)) (by rw [List.length_take, hlen]; omega) (fun j v hj => by
   rw [Addr.add_lit]
   rw [List.getElem?_take] at hj
   split at hj
   ·show w.cell? _ = _
    simp only [World.cell?, hg, Nat.zero_add]
    rw [cur_cells htk _ (by omega)]
    exact hj
   ·cases hj)
 obtain ⟨G, hG⟩ : ∃ G, G = grownCap w (ss.length + 1) ss.length 77 := ⟨_, rfl⟩
 obtain ⟨zv, hzv⟩ : ∃ zv : Value, i0.zero = some zv ∧ zv.cells.size = 5 := ⟨_, hz0, rfl⟩
 obtain ⟨ROW, hROW⟩ : ∃ ROW : Array Value, ROW = ((sesC ss).take (q * 5)).toArray ++ Builtin.zeroCells zv.cells (ss.length + 1 - q) ++ Builtin.zeroCells zv.cells (G - (ss.length + 1)) := ⟨_, rfl⟩
 have hrz : ∀ ty, (Builtin.append_ #[40, 3] ty #[.slice (some ⟨g, 0, none⟩) q ss.length, .int .i64 ((ss.length : Int) + 1 - (q : Int))]).run Tryz.prog w = .ok (.slice (some ⟨w.heap.size, 0, none⟩) (ss.length + 1) G) (w.drew.alloc (.cells ROW 77)) := fun ty => by
  have h := Lib.run_append_grow_zeros w 40 3 ty 77 i0 zv .i64 .i64 Tryz.underlying40 Tryz.underlying3 hi hzv.1 (some ⟨g, 0, none⟩) q ss.length ((sesC ss).take (q * 5)) hold (ss.length + 1 - q) (by omega) (by omega) (by omega) (by omega) (by rw [hz2]; omega) (by rw [hz2, hik]; exact growslice_fits (by omega) (by omega))
  rw [hik, ← hG, ← hROW] at h
  rw [hkk]
  exact h
 have hGn : ss.length + 1 ≤ G := by rw [hG]; exact grownCap_ge w _ _ _
 have hGm : G ≤ maxLen := by rw [hG]; exact grownCap_le_maxLen w _ _ _ (by unfold maxLen; omega)
 have hRz : ROW.size = G * 5 := by
  rw [hROW]
  simp only [Array.size_append, List.size_toArray, size_zeroCells, hzv.2, List.length_take, hlen]
  omega
 have hRt : ROW.toList.take (q * 5) = (sesC ss).take (q * 5) := by
  rw [hROW]
  simp only [Array.toList_append, List.append_assoc]
  exact List.take_left' (by rw [List.length_take, hlen]; omega)
 clear hG hold hROW hzv hik hkk zv
 obtain ⟨W1, hW1⟩ : ∃ W1, W1 = w.drew.alloc (.cells ROW 77) := ⟨_, rfl⟩
 have hg1 : W1.heap[w.heap.size]? = some (.cells ROW 77 (0, 0)) := by rw [hW1]; exact heap_alloc_new w.drew _
 have hX1 : W1.heap[vb]? = some (.cells #[.int .i64 s.id, .int .i64 s.sq, .int .i64 s.kd, .int .i64 s.pl, .string s.vl] 77 (0, 0)) := by rw [hW1]; exact (heap_alloc_old w.drew _ hvl).trans hX
 have hc1 : W1.heap[g]? = some (.cells cur 77 (0, 0)) := by rw [hW1]; exact (heap_alloc_old w.drew _ hgl).trans hg
 have hT1 : Touch (fun k => some g = some k) w W1 := by rw [hW1]; exact ⟨rfl, rfl, rfl, by simp, fun k hk _ => heap_alloc_old w.drew _ hk⟩
 have hs1 : w.heap.size < W1.heap.size := by rw [hW1]; simp
 rw [← hW1] at hrz
 clear hW1
 obtain ⟨R1, hR1⟩ : ∃ R1 : List Value, R1 = ROW.toList.take (q * 5) ++ seC s ++ ROW.toList.drop (q * 5 + 5) := ⟨_, rfl⟩
 have hmin2 : Nat.min 1 (ss.length + 1 - q) = 1 := by simp only [Nat.min_def]; split <;> omega
 have hmin : Nat.min (ss.length - q) (ss.length - q) = ss.length - q := by simp only [Nat.min_def]; split <;> omega
 have hcpA : ∀ ty dc, (Builtin.copy_ #[40, 40] ty #[.slice (some ⟨w.heap.size, q * 5, none⟩) (ss.length + 1 - q) dc, .slice (some ⟨vb, 0, none⟩) 1 1]).run Tryz.prog W1 = .ok (goInt 1) (W1.setRow w.heap.size R1.toArray) := fun ty dc => by
  have h := run_copy_rows (P := Tryz.prog) W1 40 40 ty 77 5 w.heap.size (q * 5) (ss.length + 1 - q) dc ⟨vb, 0, none⟩ 1 1 ROW 77 (seC s) Tryz.underlying40 hsz hg1 (by rw [hmin2]; rfl) (World.news_of_block hX1) (by show q * 5 + 5 ≤ ROW.size; rw [hRz]; omega) (seC_one s)
  rw [hmin2] at h
  have e5 : (seC s).length = 5 := rfl
  rw [e5, ← hR1] at h
  exact h
 have hg2 : (W1.setRow w.heap.size R1.toArray).heap[w.heap.size]? = some (.cells R1.toArray 77 (0, 0)) := setRow_heap W1 w.heap.size ROW R1.toArray 77 (0, 0) hg1
 have hc2 : (W1.setRow w.heap.size R1.toArray).heap[g]? = some (.cells cur 77 (0, 0)) := (setRow_other W1 w.heap.size g R1.toArray (by omega)).trans hc1
 have hRl : R1.length = G * 5 := by
  rw [hR1]
  have e5 : (seC s).length = 5 := rfl
  simp only [List.length_append, List.length_take, List.length_drop, Array.length_toList, hRz, e5]
  omega
 obtain ⟨R2, hR2⟩ : ∃ R2 : List Value, R2 = R1.take ((q + 1) * 5) ++ (sesC ss).drop (q * 5) ++ R1.drop ((q + 1) * 5 + ((sesC ss).drop (q * 5)).length) := ⟨_, rfl⟩
 have hcpB : ∀ ty dc sc, (Builtin.copy_ #[40, 40] ty #[.slice (some ⟨w.heap.size, (q + 1) * 5, none⟩) (ss.length - q) dc, .slice (some ⟨g, q * 5, none⟩) (ss.length - q) sc]).run Tryz.prog (W1.setRow w.heap.size R1.toArray).drew = .ok (goInt ((ss.length - q : Nat) : Int)) ((W1.setRow w.heap.size R1.toArray).drew.setRow w.heap.size R2.toArray) := fun ty dc sc => by
  have h := run_copy_rows (P := Tryz.prog) (W1.setRow w.heap.size R1.toArray).drew 40 40 ty 77 5 w.heap.size ((q + 1) * 5) (ss.length - q) dc ⟨g, q * 5, none⟩ (ss.length - q) sc R1.toArray 77 ((sesC ss).drop (q * 5)) Tryz.underlying40 hsz hg2 (by rw [hcl, hmin]) (fun j v hj => by
   have hjl : j < (ss.length - q) * 5 := by rw [← hcl]; exact (List.getElem?_eq_some_iff.1 hj).1
   rw [List.getElem?_drop] at hj
   rw [Addr.add_lit]
   show (W1.setRow w.heap.size R1.toArray).cell? _ = _
   simp only [World.cell?, hc2]
   rw [cur_cells htk _ (by omega)]
   exact hj) (by rw [hcl, List.size_toArray, hRl]; omega) (fun v hv => sesC_one ss v (List.mem_of_mem_drop hv))
  rw [hmin, show R1.toArray.toList = R1 from rfl, ← hR2] at h
  exact h
 have q1 : ¬ ((q : Int) = (ss.length : Int)) := by omega
 have q2 : (ss.length : Int) < (ss.length : Int) + 1 := by omega
 have q3 : IntKind.i64.wrap ((q : Int) + 1) = (q : Int) + 1 := wrapSe _ (by omega) (by omega)
 have q4 : IntKind.i64.wrap ((ss.length : Int) + 1) = (ss.length : Int) + 1 := wrapSe _ (by omega) (by omega)
 have q4b : IntKind.i64.wrap ((ss.length : Int) + 1 - (q : Int)) = (ss.length : Int) + 1 - (q : Int) := wrapSe _ (by omega) (by omega)
 have q5 : ((q : Int) + 1).toNat = q + 1 := by omega
 have q7 : ¬ (G = q + 1) := by omega
 have q7b : ¬ (G = q) := by omega
 have q8 : ¬ (ss.length = q) := by omega
 have q9 : (0 : Int) ≤ (q : Int) + 1 := by omega
 have q10 : q ≤ ss.length := by omega
 have q11 : (q : Int) ≤ (ss.length : Int) + 1 := by omega
 unfold maxLen at hGm
 have HF := Hd (And.intro hR1 (And.intro hRl (And.intro hRz (And.intro hRt (And.intro hGm (And.intro hGn (And.intro hBg (And.intro hT1 (And.intro hs1 (And.intro hg1 (And.intro hg2 hR2)))))))))))
 clear hR1 hRl hcs htk hBg hX1 hg hX hcl hmin hmin2 hlen hRz hRt hT1 hs1 hg1 hg2 hc1 hc2 hcm hnc hR2
 go_enter Tryz.func41, Tryz.ntmps41
 go_wp2_with (first
  | (at_builtin; refine Lib.wpList_append_run _ rfl _ _ _ _ rfl _ _ rfl rfl _ _ (hrz _) ?_)
  | (at_builtin; refine wpList_copy_rows _ rfl _ _ 40 40 rfl _ _ rfl rfl (hcpA _ _) ?_))
 go_region_law (refine step_copy_rows rfl _ _ 40 40 rfl _ _ (by simp [Act.eval, Act.put]) (by simp [Act.eval, Act.put]) (hcpB _ _ _) ?_)
 go_wp2_with fail
 refine bodyPost_ret (v := .slice (some ⟨w.heap.size, 0, none⟩) (ss.length + 1) G) (by simp [results, Tryz.results41, go_sem]) rfl ?_
 obtain ⟨hR1, hRl, hRz, hRt, hGm, hGn, hBg, hT1, hs1, hg1, hg2, hR2⟩ := uh HF
 have hlen := sesC_len ss
 have h5 : (seC s).length = 5 := rfl
 refine ⟨_, rfl, ⟨?_, .inr ⟨w.heap.size, G, R2.toArray, ?_, hB, setRow_heap (W1.setRow w.heap.size R1.toArray).drew w.heap.size R1.toArray _ 77 (0, 0) hg2, ?_, by unfold maxLen; omega, ?_, ?_⟩⟩, .inr ⟨w.heap.size, rfl, Nat.le_refl _⟩, ⟨hT1.os, hT1.tape, hT1.output, ?_, fun k hk hn => ?_⟩⟩
 ·rw [sesC_len]
 ·rw [insS_len _ _ _ (by omega)]
 ·rw [insS_len _ _ _ (by omega)]; exact hGn
 ·rw [List.size_toArray, hR2]
  simp only [List.length_append, List.length_take, List.length_drop, hRl, hlen]
  omega
 ·rw [insS_len _ _ _ (by omega), uh HL]
  have hrt := row_three ROW.toList (seC s) ((sesC ss).drop (q * 5)) (q * 5) (by have := ROW.length_toList; omega) (ROW.toList.drop (q * 5 + 5)) (R1.drop ((q + 1) * 5 + ((sesC ss).drop (q * 5)).length))
  rw [h5, ← hR1, show q * 5 + 5 = (q + 1) * 5 by omega, hRt] at hrt
  rw [hR2, show (ss.length + 1) * 5 = (q + 1) * 5 + ((sesC ss).drop (q * 5)).length by rw [List.length_drop, hlen]; omega]
  simpa using hrt
 ·have : w.heap.size ≤ W1.heap.size := by omega
  simpa [World.setRow] using this
 ·rw [setRow_other _ _ _ _ (by omega)]
  show (W1.setRow w.heap.size R1.toArray).heap[k]? = _
  rw [setRow_other _ _ _ _ (by omega)]
  exact hT1.block k hk hn
theorem run_clear_rows {P : Program} (w : World) (t e ty : TypeId) (z : Value) (ht : P.underlying t = some (.slice e)) (hv : ∀ w, (zeroValue e).run P w = .ok z w) (g o n c : Nat) (hn : 0 < n) (cur : Array Value) (et : TypeId)
  (hg : w.heap[g]? = some (.cells cur et (0, 0))) (hfit : o + (Builtin.zeroCells z.cells n).toList.length ≤ cur.size) (h1 : ∀ v ∈ (Builtin.zeroCells z.cells n).toList, v.oneCell' = true) :
  (Builtin.clear_ #[t] ty #[.slice (some ⟨g, o, none⟩) n c]).run P w = .ok (.tuple #[]) (w.setRow g (cur.toList.take o ++ (Builtin.zeroCells z.cells n).toList ++ cur.toList.drop (o + (Builtin.zeroCells z.cells n).toList.length)).toArray) := by
 have hst := run_storeCells_at P g o et (Builtin.zeroCells z.cells n).toList 0 cur w hg (by simpa using hfit) h1
 simp only [Nat.add_zero] at hst
 obtain ⟨m, rfl⟩ : ∃ m, n = m + 1 := ⟨n - 1, by omega⟩
 simp [Builtin.clear_, run_underlying ht, hv, hst]
theorem wpList_clear_rows {P : Program} (w : World) {ops : Array Oper} {rest : List Oper} {o : Oper} {a : Act} {Q : Exit → Act → World → Prop} (hgd : o.guard = none) (s : Operand) (t : TypeId)
  (ho : o.op = .call { callee := .builtin .clear, args := #[s], argTypes := #[t] }) (v : Value) (hs : a.eval s = v) {v' : Value} {w' : World}
  (hr : (Builtin.clear_ #[t] o.type #[v]).run P w = .ok v' w') (h : wpList P ops Q rest (a.put o.dst v') w') : wpList P ops Q (o :: rest) a w :=
 wpList_plain hgd fun _ hK => by
  unfold Oper.wp execOp
  simp only [ho, resolve, invoke, builtin, Sem.run_bind, Sem.run_pure, Result.andThen_ok, List.map_toArray, List.map_cons, List.map_nil, hs, hr]
  exact hK _ _ h
theorem step_append_rows {P : Program} {ops : Array Oper} {o : Oper} {a : Act} {w : World} {K : Act → World → Prop} {Q : Exit → Act → World → Prop} {E : Prop}
  (hg : o.guard = none) (d x : Operand) (dT sT : TypeId) (hop : o.op = Op.call { callee := Callee.builtin Builtin.append, args := #[d, x], argTypes := #[dT, sT] })
  (v u : Value) (hd : a.eval d = v) (hx : a.eval x = u) {v' : Value} {w' : World} (hr : (Builtin.append_ #[dT, sT] o.type #[v, u]).run P w = .ok v' w') (hK : K (a.put o.dst v') w') :
  if Region.wanted o (yielded ops a.tmps) = true then Oper.wp P o a w K Q else E := by
 have hw : Region.wanted o (yielded ops a.tmps) = true := by simp [Region.wanted, hg]
 rw [if_pos hw]
 unfold Oper.wp
 simp [execOp, hop, resolve, invoke, builtin, hd, hx, hr, Result.andThen]
 exact hK
theorem zeroSe_ (w : World) : (zeroValue 77).run Tryz.prog w = .ok (.agg #[.int .i64 0, .int .i64 0, .int .i64 0, .int .i64 0, .string ⟨#[]⟩]) w := by kernel_rfl
theorem zeroCells_se : (Builtin.zeroCells (Value.agg #[.int .i64 0, .int .i64 0, .int .i64 0, .int .i64 0, .string ⟨#[]⟩]).cells 1).toList = [.int .i64 0, .int .i64 0, .int .i64 0, .int .i64 0, .string ⟨#[]⟩] := by kernel_rfl
theorem delete_any (B g cap : Nat) (ss : List Se) (q : Nat) (w : World) (hO : OwnSe B w (.slice (some ⟨g, 0, none⟩) ss.length cap) ss) (hs : ss.length ≤ 1000) (hq : q < ss.length) :
  Calls Tryz.prog 31 #[.slice (some ⟨g, 0, none⟩) ss.length cap, .int .i64 q, .int .i64 ((q : Int) + 1)] w fun e w' => InsR B (some g) (delS ss q) w e w' := by
 obtain ⟨i0, hi, hz0, hz1, hz2⟩ := info_parts infoSe
 have hlen := sesC_len ss
 have HL := Hd (sesC_del ss q)
 have HLn := Hd (delS_len ss q hq)
 obtain ⟨cur, hg, hcm, hnc, hcs, htk, hBg⟩ := own_cur hO
 clear hO
 unfold maxLen at hcm
 have hone := sesC_one ss
 generalize delS ss q = ss2 at *
 generalize sesC ss = xs at *
 generalize ss.length = n at *
 clear ss
 obtain ⟨m, rfl⟩ : ∃ m, n = q + 1 + m := ⟨n - q - 1, by omega⟩
 have hcl : (xs.drop ((q + 1) * 5)).length = m * 5 := by rw [List.length_drop, hlen]; omega
 obtain ⟨R1, hR1⟩ : ∃ R1 : List Value, R1 = cur.toList.take (q * 5) ++ xs.drop ((q + 1) * 5) ++ cur.toList.drop (q * 5 + (xs.drop ((q + 1) * 5)).length) := ⟨_, rfl⟩
 have hap : ∀ ty (b : Nat) sc, (0 < m → b = (q + 1) * 5) → (Builtin.append_ #[40, 40] ty #[.slice (some ⟨g, 0, none⟩) q cap, .slice (some ⟨g, b, none⟩) m sc]).run Tryz.prog w.drew = .ok (.slice (some ⟨g, 0, none⟩) (q + m) cap) (w.drew.setRow g R1.toArray) := fun ty b sc hb => by
  have h := run_append_room (P := Tryz.prog) w.drew 40 ty 77 i0 Tryz.underlying40 hi g q cap cur hg ⟨g, b, none⟩ m sc (xs.drop ((q + 1) * 5)) (by rw [hcl, hz1]) (fun j v hj => by
   have hjl : j < m * 5 := by rw [← hcl]; exact (List.getElem?_eq_some_iff.1 hj).1
   rw [List.getElem?_drop] at hj
   rw [Addr.add_lit, hb (by omega)]
   show w.cell? _ = _
   simp only [World.cell?, hg]
   rw [cur_cells htk _ (by omega)]
   exact hj) (fun v hv => hone v (List.mem_of_mem_drop hv)) (by omega) (by rw [hcl, hz1, hcs]; omega)
  rw [hz1, ← hR1] at h
  exact h
 have hRl : R1.length = cap * 5 := by
  rw [hR1]
  simp only [List.length_append, List.length_take, List.length_drop, Array.length_toList, hcs, hlen]
  omega
 have hW1 : (w.drew.setRow g R1.toArray).heap[g]? = some (.cells R1.toArray 77 (0, 0)) := setRow_heap w.drew g cur R1.toArray 77 (0, 0) hg
 obtain ⟨zs, hzs⟩ : ∃ zs : List Value, zs = (Builtin.zeroCells (Value.agg #[.int .i64 0, .int .i64 0, .int .i64 0, .int .i64 0, .string ⟨#[]⟩]).cells 1).toList := ⟨_, rfl⟩
 have hzl : zs.length = 5 := by rw [hzs, zeroCells_se]; rfl
 have hz1' : ∀ v ∈ zs, v.oneCell' = true := by
  rw [hzs, zeroCells_se]
  intro v hv
  simp only [List.mem_cons, List.not_mem_nil, or_false] at hv
  rcases hv with rfl | rfl | rfl | rfl | rfl <;> rfl
 obtain ⟨R2, hR2⟩ : ∃ R2 : List Value, R2 = R1.take ((q + m) * 5) ++ zs ++ R1.drop ((q + m) * 5 + 5) := ⟨_, rfl⟩
 have hcr : ∀ ty sc, (Builtin.clear_ #[40] ty #[.slice (some ⟨g, (q + m) * 5, none⟩) 1 sc]).run Tryz.prog (w.drew.setRow g R1.toArray) = .ok (.tuple #[]) ((w.drew.setRow g R1.toArray).setRow g R2.toArray) := fun ty sc => by
  have h := run_clear_rows (P := Tryz.prog) (w.drew.setRow g R1.toArray) 40 77 ty _ Tryz.underlying40 zeroSe_ g ((q + m) * 5) 1 sc (by omega) R1.toArray 77 hW1 (by rw [← hzs, hzl, List.size_toArray, hRl]; omega) (by rw [← hzs]; exact hz1')
  rw [← hzs, hzl, show R1.toArray.toList = R1 from rfl, ← hR2] at h
  exact h
 have q1 : ¬ ((q : Int) = (q : Int) + 1) := by omega
 have q2 : (0 : Int) ≤ (q : Int) + 1 := by omega
 have q3 : ((q : Int) + 1).toNat = q + 1 := by omega
 have q5 : q + 1 + m - (q + 1) = m := by omega
 have q6 : q + 1 + m - (q + m) = 1 := by omega
 have q7 : ¬ (cap = q + m) := by omega
 have q8 : q + 1 + m ≤ cap := hnc
 have q9 : q ≤ cap := by omega
 have q11 : (q : Int) ≤ (q : Int) + 1 := by omega
 have q12 : (q : Int) + 1 ≤ (q : Int) + 1 + (m : Int) := by omega
 have q13 : (0 : Int) ≤ (m : Int) := by omega
 have q14 : (q : Int) ≤ (cap : Int) := by omega
 have q10 : q + m ≤ q + 1 + m := by omega
 have hself : m = 0 → w.drew.setRow g R1.toArray = w.drew := fun e => by
  have e1 : xs.drop ((q + 1) * 5) = [] := List.eq_nil_of_length_eq_zero (by rw [hcl, e])
  have e2 : R1 = cur.toList := by rw [hR1, e1]; simp
  rw [e2, Array.toArray_toList]
  exact setRow_self w.drew g cur 77 (0, 0) hg
 have HF := Hd (And.intro hR1 (And.intro hRl (And.intro hcs (And.intro htk (And.intro hcm (And.intro hBg (And.intro hR2 (And.intro hzl (And.intro hW1 hlen)))))))))
 clear hR1 hRl hcs htk hBg hR2 hW1 hlen hzl hz1' hzs hone hcl hg
 by_cases hce : cap = q + 1
 ·obtain rfl : m = 0 := by omega
  have hap1 := fun ty sc => hap ty 0 sc (fun h => by omega)
  clear hap
  subst hce
  rw [hself rfl] at hcr HF
  clear hself hap1
  simp only [Nat.add_zero, Nat.zero_mul] at hcr q12 q8 q7 q6 q5 HF HLn
  go_enter Tryz.func31, Tryz.ntmps31
  go_wp2_with fail
  go_region_law fail
  go_wp2_with (at_builtin; refine wpList_clear_rows _ rfl _ 40 rfl _ rfl (hcr _ _) ?_)
  refine bodyPost_ret (v := .slice (some ⟨g, 0, none⟩) q (q + 1)) (by simp [results, Tryz.results31, go_sem]) rfl ?_
  obtain ⟨hR1, hRl, hcs, htk, hcm, hBg, hR2, hzl, hW1, hlen⟩ := uh HF
  have hl2 : ss2.length = q := by have := uh HLn; omega
  have hx2 : (xs.drop ((q + 1) * 5)).length = 0 := by rw [List.length_drop, hlen]; omega
  have hR1t : R1.take (q * 5) = xs.take (q * 5) ++ xs.drop ((q + 1) * 5) := by
   have htk2 : cur.toList.take (q * 5) = xs.take (q * 5) := by rw [← htk, List.take_take, show min (q * 5) ((q + 1) * 5) = q * 5 by omega]
   rw [hR1, htk2]
   exact List.take_left' (by rw [List.length_append, hx2, List.length_take, hlen]; omega)
  refine ⟨_, rfl, ⟨?_, .inr ⟨g, (q + 1), R2.toArray, ?_, hBg, setRow_heap w.drew g R1.toArray _ 77 (0, 0) hW1, ?_, by unfold maxLen; omega, ?_, ?_⟩⟩, .inl rfl, ⟨rfl, rfl, rfl, by simp [World.setRow], fun k hk hn => ?_⟩⟩
  ·rw [sesC_len]
  ·rw [hl2]
  ·rw [hl2]; omega
  ·rw [List.size_toArray, hR2]
   simp only [List.length_append, List.length_take, List.length_drop, hRl, hzl]
   omega
  ·rw [hl2, uh HL, hR2, ← hR1t]
   have : (R1.take (q * 5)).length = q * 5 := by rw [List.length_take, hRl]; omega
   show ((R1.take (q * 5) ++ zs) ++ R1.drop (q * 5 + 5)).take (q * 5) = _
   rw [List.append_assoc]
   exact List.take_left' this
  ·have hne : k ≠ g := fun e => hn (by rw [e])
   rw [setRow_other _ _ _ _ hne]
   rfl
 ·have hap1 := fun ty sc => hap ty ((q + 1) * 5) sc (fun _ => rfl)
  clear hap hself
  go_enter Tryz.func31, Tryz.ntmps31
  go_wp2_with fail
  go_region_law (refine step_append_rows rfl _ _ 40 40 rfl (.slice (some ⟨g, 0, none⟩) q cap) (.slice (some ⟨g, (q + 1) * 5, none⟩) m (cap - (q + 1))) (by simp [Act.eval, Act.put]) (by simp [Act.eval, Act.put]) (hap1 _ (cap - (q + 1))) ?_)
  go_wp2_with (at_builtin; refine wpList_clear_rows _ rfl _ 40 rfl _ rfl (hcr _ _) ?_)
  refine bodyPost_ret (v := .slice (some ⟨g, 0, none⟩) (q + m) cap) (by simp [results, Tryz.results31, go_sem]) rfl ?_
  obtain ⟨hR1, hRl, hcs, htk, hcm, hBg, hR2, hzl, hW1, hlen⟩ := uh HF
  have hl2 : ss2.length = q + m := by have := uh HLn; omega
  have hx2 : (xs.drop ((q + 1) * 5)).length = m * 5 := by rw [List.length_drop, hlen]; omega
  have hR1t : R1.take ((q + m) * 5) = xs.take (q * 5) ++ xs.drop ((q + 1) * 5) := by
   have htk2 : cur.toList.take (q * 5) = xs.take (q * 5) := by rw [← htk, List.take_take, show min (q * 5) ((q + 1 + m) * 5) = q * 5 by omega]
   rw [hR1, htk2]
   exact List.take_left' (by rw [List.length_append, hx2, List.length_take, hlen]; omega)
  refine ⟨_, rfl, ⟨?_, .inr ⟨g, cap, R2.toArray, ?_, hBg, setRow_heap (w.drew.setRow g R1.toArray) g R1.toArray _ 77 (0, 0) hW1, ?_, by unfold maxLen; omega, ?_, ?_⟩⟩, .inl rfl, ⟨rfl, rfl, rfl, by simp [World.setRow], fun k hk hn => ?_⟩⟩
  ·rw [sesC_len]
  ·rw [hl2]
  ·rw [hl2]; omega
  ·rw [List.size_toArray, hR2]
   simp only [List.length_append, List.length_take, List.length_drop, hRl, hzl]
   omega
  ·rw [hl2, uh HL, hR2, ← hR1t]
   have : (R1.take ((q + m) * 5)).length = (q + m) * 5 := by rw [List.length_take, hRl]; omega
   show ((R1.take ((q + m) * 5) ++ zs) ++ R1.drop ((q + m) * 5 + 5)).take ((q + m) * 5) = _
   rw [List.append_assoc]
   exact List.take_left' this
  ·have hne : k ≠ g := fun e => hn (by rw [e])
   rw [setRow_other _ _ _ _ hne, setRow_other _ _ _ _ hne]
   rfl
end Go.Proofs.YtlbcdngidfjogaaGreatDoor
namespace Go.Proofs.YtlbcdngidfjogaaGreatDoor.Sha
set_option maxRecDepth 100000
set_option maxHeartbeats 8000000
open Go.ChangeShapes Go.WideShapes Go.ChangeAt Go.RowKit Go.Deep
set_option linter.unusedVariables false
set_option linter.unusedSimpArgs false
theorem Bk.sess {B : Nat} {w w1 : World} {p : Nat} {lv : Value} {tp : Option Addr} {sv v' : Value} {S : Nat → Prop} {ls : List ByteArray} {o : Option Tr} {ss l : List Se} (h : Bk B w p lv tp sv S ls o ss) (hB : B ≤ w.heap.size) (hO : OwnSe B w1 v' l) (hat : v'.ownBlock = sv.ownBlock ∨ ∃ g, v'.ownBlock = some g ∧ w.heap.size ≤ g) (ht : Touch (fun k => sv.ownBlock = some k) w w1) :
  Bk B (w1.setCell ⟨p, 2, none⟩ v') p lv tp v' S ls o l ∧ (∀ r, r < w.heap.size → Av p lv sv S r → Av p lv v' S r) ∧ Touch (fun q => ¬ Av p lv sv S q) w (w1.setCell ⟨p, 2, none⟩ v') := by
 obtain ⟨h1, h2, h3, h4, h5, h6, h7, h8, h9⟩ := h
 have hl := h3.lt
 have hp := h1.1
 have TS := (Touch.refl (fun k => k = p) w1).setCell ⟨p, 2, none⟩ v' (fun _ => rfl)
 have T1 : Touch (fun k => sv.ownBlock = some k ∨ k = p) w w1 := ⟨ht.os, ht.tape, ht.output, ht.size, fun k hk hn => ht.block k hk (fun e => hn (.inl e))⟩
 have T2 := T1.trans TS (fun j _ e => Or.inr e)
 have hsz := T2.size
 have hvp : v'.ownBlock ≠ some p := by
  rcases hat with e | ⟨g, e, hg⟩
  ·rw [e]; exact h8
  ·rw [e]; intro e2; simp only [Option.some.injEq] at e2; omega
 refine ⟨⟨?_, h2, h3.kept T2 (fun k hk e => ?_), hO.kept TS (fun k hk e => hvp (by rw [hk, e])), ?_, fun x hx => ?_, h7, hvp, fun x hx e2 => ?_⟩, fun r hr ha => ⟨ha.1, ha.2.1, ?_, ha.2.2.2⟩, ⟨T2.os, T2.tape, T2.output, T2.size, fun k hk hn => T2.block k hk (fun e => hn (fun ha => ?_))⟩⟩
 ·have := (h1.kept ht h8).set 2 v' (by simp)
  simpa using this
 ·rcases e with e | e
  ·exact h9 k hk e
  ·exact h7 (by rw [hk, e])
 ·cases o with
  | none => exact h5
  | some t => obtain ⟨q, e, hq⟩ := h5; exact ⟨q, e, hq.touch T2 (fun k hk e2 => by
    rcases e2 with e2 | e2
    ·exact (h6 k hk).2.2.2.2 e2
    ·exact (h6 k hk).2.2.1 e2)⟩
 ·obtain ⟨a1, a2, a3, a4, a5⟩ := h6 x hx
  refine ⟨a1, by omega, a3, a4, ?_⟩
  rcases hat with e | ⟨g, e, hg⟩
  ·rw [e]; exact a5
  ·rw [e]; intro e2; simp only [Option.some.injEq] at e2; omega
 ·rcases hat with e | ⟨g, e, hg⟩
  ·exact h9 x hx (by rw [← e]; exact e2)
  ·rw [e] at e2
   simp only [Option.some.injEq] at e2
   have := (hl x hx).2
   omega
 ·rcases hat with e | ⟨g, e, hg⟩
  ·rw [e]; exact ha.2.2.1
  ·rw [e]; intro e2; simp only [Option.some.injEq] at e2; omega
 ·rcases e with e | e
  ·exact ha.2.2.1 e
  ·exact ha.1 e
theorem insert_any (B : Nat) (sv : Value) (ss : List Se) (q : Nat) (s : Se) (vb : Nat) (w : World) (hO : OwnSe B w sv ss) (hX : w.heap[vb]? = some (.cells #[.int .i64 s.id, .int .i64 s.sq, .int .i64 s.kd, .int .i64 s.pl, .string s.vl] 77 (0, 0))) (hB : B ≤ w.heap.size) (hs : ss.length ≤ 1000) (hq : q ≤ ss.length) (hvb : sv.ownBlock ≠ some vb) :
  Calls Tryz.prog 41 #[sv, .int .i64 q, .slice (some ⟨vb, 0, none⟩) 1 1] w fun e w' => InsR B sv.ownBlock (insS ss q s) w e w' := by
 by_cases h1 : q = ss.length
 ·subst h1
  exact insert_end B sv ss s vb w hO hX hB hs
 ·obtain ⟨g, cap, rfl, _, _⟩ := World.ownsRow.form hO (by omega)
  by_cases h2 : ss.length + 1 ≤ cap
  ·exact insert_room B g cap ss q s vb w hO hX hB hs (by omega) h2 (fun e => hvb (by rw [e]; rfl))
  ·exact insert_grow B g cap ss q s vb w hO hX hB hs (by omega) (by omega)
def opOut (x : Lst) (id : Int) (q : Nat) : Lst × Re := if x.ss.length = 8 then (x, ⟨6, 0, ⟨#[]⟩⟩) else (⟨x.ls, x.o, insS x.ss q (newS id)⟩, ⟨1, 0, ⟨#[]⟩⟩)
theorem open_any (B p q : Nat) (lv sv : Value) (tp : Option Addr) (S : Nat → Prop) (ls : List ByteArray) (o : Option Tr) (ss : List Se) (id : Int) (w : World) (hk : Bk B w p lv tp sv S ls o ss) (hB : B ≤ w.heap.size) (hs : ss.length ≤ 8) (hq : q ≤ ss.length) :
  Calls Tryz.prog 30 #[.pointer (some ⟨p, 0, none⟩), .int .i64 q, .int .i64 id] w fun e w' => ApR B p lv sv S (opOut ⟨ls, o, ss⟩ id q) w e w' := by
 have HU : Hid (opOut ⟨ls, o, ss⟩ id q = if ss.length = 8 then (⟨ls, o, ss⟩, ⟨6, 0, ⟨#[]⟩⟩) else (⟨ls, o, insS ss q (newS id)⟩, ⟨1, 0, ⟨#[]⟩⟩)) := Hd rfl
 obtain ⟨a, cp, rfl⟩ : ∃ a cp, sv = .slice a ss.length cp := by
  rcases hk.2.2.2.1.2 with ⟨e, e0⟩ | ⟨g, cp, cu, e, _⟩
  ·exact ⟨none, 0, by rw [e, e0]⟩
  ·exact ⟨_, _, e⟩
 have HBK := Hd hk
 have B0 := Hd (bal w (.cells #[.int .i64 0, .int .i64 0, .string ⟨#[]⟩] 27))
 have R0 := Hd (Blk.new w #[.int .i64 0, .int .i64 0, .string ⟨#[]⟩] 27 w.heap.size rfl)
 clear hk
 go_enter Tryz.func30, Tryz.ntmps30
 go_upto_region 1 with fail
 generalize w.alloc (.cells #[.int .i64 0, .int .i64 0, .string ⟨#[]⟩] 27) = w0 at *
 have hw0 : w.heap.size < w0.heap.size := (uh R0).1
 have BK0 := Hd ((uh HBK).below (uh B0))
 have y2 := (uh BK0).1.cell 2 rfl
 by_cases h8 : ss.length = 8
 ·have b1 : ((ss.length : Int) == 8) = true := by rw [h8]; rfl
  rw [if_pos h8] at HU
  have H8 := Hd h8
  clear h8
  have RX := uh R0
  obtain ⟨⟨rz0, rz1, rz2⟩, fz0, fz1, fz2⟩ := Blk.c3 RX
  have HR9 := Hd (((RX.set 0 (.int .i64 6) (by simp)).set 1 (.int .i64 0) (by simp)).set 2 (.string ⟨#[]⟩) (by simp))
  have HT9 := Hd ((((Touch.refl (fun q => q = w.heap.size) w0).setCell ⟨w.heap.size, 0, none⟩ (.int .i64 6) (fun _ => rfl)).setCell ⟨w.heap.size, 1, none⟩ (.int .i64 0) (fun _ => rfl)).setCell ⟨w.heap.size, 2, none⟩ (.string ⟨#[]⟩) (fun _ => rfl))
  clear RX
  go_wp2_with fail
  have R9 := uh HR9
  have z0 := R9.cell 0 rfl
  have z1 := R9.cell 1 rfl
  have z2 := R9.cell 2 rfl
  refine bodyPost_ret (v := .agg #[.int .i64 6, .int .i64 0, .string ⟨#[]⟩]) (by simp [results, Tryz.results30, go_sem, z0, z1, z2]) rfl ?_
  refine ap_tell (uh HU) ⟨rfl, lv, tp, _, S, (uh BK0).keep (uh HT9) (fun k e => by rw [e]; exact (uh HBK).av _ (Nat.le_refl _)), fun r _ ha => ha, ?_⟩
  exact (Touch.ofBelow (uh B0)).trans (uh HT9) (fun j hj e => by omega)
 ·have b1 : ((ss.length : Int) == 8) = false := by rw [beq_eq_false_iff_ne]; omega
  rw [if_neg h8] at HU
  have bA := bal w0 (.cells #[.int .i64 id, .int .i64 0, .int .i64 0, .int .i64 0, .string ⟨#[]⟩] 77)
  have BK1 := Hd ((uh BK0).below bA)
  have R1 := Hd ((uh R0).below bA)
  have B1 := hbt B0 bA
  have hX : (w0.alloc (.cells #[.int .i64 id, .int .i64 0, .int .i64 0, .int .i64 0, .string ⟨#[]⟩] 77)).heap[w0.heap.size]? = some (.cells #[.int .i64 (newS id).id, .int .i64 (newS id).sq, .int .i64 (newS id).kd, .int .i64 (newS id).pl, .string (newS id).vl] 77 (0, 0)) := heap_alloc_new w0 _
  have hB1 : B ≤ (w0.alloc (.cells #[.int .i64 id, .int .i64 0, .int .i64 0, .int .i64 0, .string ⟨#[]⟩] 77)).heap.size := by simp; omega
  have HIN := Hd (insert_any B _ ss q (newS id) w0.heap.size _ (uh BK1).2.2.2.1 hX hB1 (by omega) hq (fun e => by have := ((uh BK0).2.2.2.1.lt _ e).2; omega))
  have HB1 := Hd hB1
  have hz1 : w.heap.size + 1 < (w0.alloc (.cells #[.int .i64 id, .int .i64 0, .int .i64 0, .int .i64 0, .string ⟨#[]⟩] 77)).heap.size := by simp; omega
  have HZ1 := Hd hz1
  have HY := Hd ((uh BK1).1)
  clear bA hX hB1 h8 hz1
  go_wp2_with fail
  refine (uh HIN).mono ?_
  rintro e w2 ⟨v2, rfl, hO2, hat2, hT2⟩
  obtain ⟨g2, c2, rfl, _, _⟩ := World.ownsRow.form hO2 (by rw [insS_len _ _ _ hq]; omega)
  obtain ⟨n2, hn2⟩ : ∃ n2, n2 = (insS ss q (newS id)).length := ⟨_, rfl⟩
  rw [← hn2] at hO2 hat2 ⊢
  have HN2 := Hd hn2
  clear hn2
  have X2 := (uh HY).kept hT2 (uh HBK).2.2.2.2.2.2.2.1
  have z2 := X2.cell 2 rfl
  have fz := X2.fro 2
  obtain ⟨bk3, av3, t3⟩ := (uh BK1).sess (uh HB1) hO2 hat2 hT2
  have HAv := Hd (fun r (hr : w.heap.size ≤ r) => (uh HBK).av r hr)
  have BK3 := Hd bk3
  have hrl : w.heap.size < (w0.alloc (.cells #[.int .i64 id, .int .i64 0, .int .i64 0, .int .i64 0, .string ⟨#[]⟩] 77)).heap.size := by have := uh HZ1; omega
  have HR3 := Hd (av3 _ hrl (uh HAv _ (Nat.le_refl _)))
  have R3 := Hd ((uh R1).kept t3 (fun h => h (uh HAv _ (Nat.le_refl _))))
  have T3 := Hd ((Touch.ofBelow (T := fun k => ¬ Av p lv (.slice a ss.length cp) S k) (uh B1)).trans t3 (fun _ _ e => e))
  have HAV3 := Hd (fun r (hr : r < w.heap.size) (ha : Av p lv (.slice a ss.length cp) S r) => av3 r (by omega) ha)
  clear HIN hO2 hat2 hT2 X2 bk3 av3 t3 BK0 BK1 R0 R1 B0 B1 HY y2
  go_upto_region 4 with fail
  clear z2 fz
  generalize w2.setCell ⟨p, 2, none⟩ (.slice (some ⟨g2, 0, none⟩) n2 c2) = w3 at *
  have hw3 : w.heap.size < w3.heap.size := (uh R3).1
  have RX := uh R3
  obtain ⟨⟨rz0, rz1, rz2⟩, fz0, fz1, fz2⟩ := Blk.c3 RX
  have HR9 := Hd (((RX.set 0 (.int .i64 1) (by simp)).set 1 (.int .i64 0) (by simp)).set 2 (.string ⟨#[]⟩) (by simp))
  have HT9 := Hd ((((Touch.refl (fun q => q = w.heap.size) w3).setCell ⟨w.heap.size, 0, none⟩ (.int .i64 1) (fun _ => rfl)).setCell ⟨w.heap.size, 1, none⟩ (.int .i64 0) (fun _ => rfl)).setCell ⟨w.heap.size, 2, none⟩ (.string ⟨#[]⟩) (fun _ => rfl))
  clear RX
  go_wp2_with fail
  have R9 := uh HR9
  have z0 := R9.cell 0 rfl
  have z1 := R9.cell 1 rfl
  have z2 := R9.cell 2 rfl
  refine bodyPost_ret (v := .agg #[.int .i64 1, .int .i64 0, .string ⟨#[]⟩]) (by simp [results, Tryz.results30, go_sem, z0, z1, z2]) rfl ?_
  refine ap_tell (uh HU) ⟨rfl, lv, tp, .slice (some ⟨g2, 0, none⟩) n2 c2, S, (uh BK3).keep (uh HT9) (fun k e => by rw [e]; exact uh HR3), uh HAV3, ?_⟩
  exact (uh T3).trans (uh HT9) (fun j hj e => by omega)
end Go.Proofs.YtlbcdngidfjogaaGreatDoor.Sha
