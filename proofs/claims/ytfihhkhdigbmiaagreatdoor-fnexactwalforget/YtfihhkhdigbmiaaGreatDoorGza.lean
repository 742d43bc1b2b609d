/- Segments forgotten: how many of them, what is left of the disk. impl.readLog once more: with the segments that it read. (Written out of SgW.) spec.DiskOK, walked. The last segment synced, as the specification does it. (Written by py/mpj.py.) The last segment synced, as the program does it. (Written by py/mpk.py.) The acts that forget: segmentLog.drops. impl.WalForget, walked. The laws' own reader of bytes: its number and its text. The specification's reading of the log: what it is told of the disk, its own cells. spec.l02Frame, walked. spec.l02Frames, spec.ReadFrames, walked. -/
import Derived.Test.YtfihhkhdigbmiaaGreatDoorMpI
import Derived.Test.YtfihhkhdigbmiaaGreatDoorMpF
import Derived.Test.YtfihhkhdigbmiaaGreatDoorSgW
import Derived.Test.YtfihhkhdigbmiaaGreatDoorFilO
import Derived.Test.YtfihhkhdigbmiaaGreatDoorSpS
import Derived.Test.YtfihhkhdigbmiaaGreatDoorSeg
import Derived.Test.YtfihhkhdigbmiaaGreatDoorSmallD
import Derived.Test.YtfihhkhdigbmiaaGreatDoorSgR
import Derived.Deep.AppendLies
import Derived.WalkMore
import Derived.Test.YtfihhkhdigbmiaaGreatDoorRdD
import Derived.Test.YtfihhkhdigbmiaaGreatDoorSpD
import Derived.Test.YtfihhkhdigbmiaaGreatDoorFr
import Derived.Test.YtfihhkhdigbmiaaGreatDoorFrP
import Derived.Test.YtfihhkhdigbmiaaGreatDoorStrO
import Derived.Deep.Onto
namespace Go.Proofs.YtfihhkhdigbmiaaGreatDoor
open Go.ChangeShapes Go.WideShapes Go.ChangeAt Go.RowKit Go.Maps Go.Sort
set_option linter.unusedVariables false
set_option linter.unusedSimpArgs false

theorem lgRun_ok (sg : List Fl) : ∀ n i, sg.length - i = n → (lgRun sg i).2 = 0 → ∀ j, i ≤ j → j < sg.length → lgCode sg j (lgAt sg j) = 0 := by
  intro n
  induction n with
  | zero => intro i hi _ j h1 h2; omega
  | succ n ih =>
    intro i hi h j h1 h2
    rw [lgRun, dif_pos (by omega)] at h
    by_cases hc : lgCode sg i (lgAt sg i) = 0
    · rw [if_pos hc] at h
      by_cases e : i = j
      · subst e; exact hc
      · exact ih (i + 1) (by omega) h j (by omega) h2
    · rw [if_neg hc] at h
      exact absurd h hc
theorem lgCode_hd {sg : List Fl} {i : Nat} {L : Lg} (h : lgCode sg i L = 0) : (frF (sg.getD i default)).1 = [] ∨ ((frF (sg.getD i default)).1.getD 0 []).length = 4 := by
  unfold lgCode at h
  by_cases h1 : (frF (sg.getD i default)).1 = []
  · exact .inl h1
  · right
    rw [if_neg h1] at h
    split at h
    · omega
    · split at h
      · omega
      · split at h
        · omega
        · rename_i h4
          exact Decidable.not_not.1 h4
/-- Segment i + 1 tells that segment i may go. -/
def fgB (sg : List Fl) (below : Int) (i : Nat) : Prop := (frF (sg.getD (i + 1) default)).1 ≠ [] ∧ dec ((frF (sg.getD (i + 1) default)).1.getD 0 []) ≤ below
instance (sg : List Fl) (below : Int) (i : Nat) : Decidable (fgB sg below i) := by unfold fgB; exact inferInstance
/-- How many segments go, when those ahead of i do. -/
def fgN (sg : List Fl) (below : Int) (i : Nat) : Nat :=
  if h : i + 1 < sg.length then (if fgB sg below i then fgN sg below (i + 1) else i) else i
termination_by sg.length - i
theorem fgN_le (sg : List Fl) (below : Int) : ∀ n i, sg.length - i = n → i ≤ sg.length → fgN sg below i ≤ sg.length := by
  intro n
  induction n with
  | zero => intro i hi h; rw [fgN, dif_neg (by omega)]; exact h
  | succ n ih =>
    intro i hi h
    rw [fgN]
    split
    · split
      · exact ih (i + 1) (by omega) (by omega)
      · exact h
    · exact h
theorem fgN_end {sg : List Fl} {below : Int} {i : Nat} (h : ¬ i + 1 < sg.length) : fgN sg below i = i := by rw [fgN, dif_neg h]
theorem fgN_stop {sg : List Fl} {below : Int} {i : Nat} (h : ¬ fgB sg below i) : fgN sg below i = i := by
  rw [fgN]
  simp only [if_neg h]
  split <;> rfl
theorem fgN_go {sg : List Fl} {below : Int} {i : Nat} (h : i + 1 < sg.length) (hb : fgB sg below i) : fgN sg below i = fgN sg below (i + 1) := by
  rw [fgN, dif_pos h, if_pos hb]
/-- The files without the first k segments. -/
def dropL : Nat → List Fl → List Fl
  | 0, l => l
  | _ + 1, [] => []
  | k + 1, f :: l => if 0 < plcP f.n then dropL k l else f :: dropL (k + 1) l
theorem segsP_cons (f : Fl) (l : List Fl) : segsP (f :: l) = if 0 < plcP f.n then f :: segsP l else segsP l := by
  unfold segsP
  rw [List.filter_cons]
  simp only [decide_eq_true_eq]
theorem dropL_zero (l : List Fl) : dropL 0 l = l := by cases l <;> rfl
theorem dropL_seg {f : Fl} (h : 0 < plcP f.n) (k : Nat) (l : List Fl) : dropL (k + 1) (f :: l) = dropL k l := by
  conv => lhs; unfold dropL
  rw [if_pos h]
theorem dropL_not {f : Fl} (h : ¬ 0 < plcP f.n) (k : Nat) (l : List Fl) : dropL k (f :: l) = f :: dropL k l := by
  cases k with
  | zero => rw [dropL_zero, dropL_zero]
  | succ k =>
    conv => lhs; unfold dropL
    rw [if_neg h]
theorem segs_drop : ∀ (l : List Fl) (k : Nat), segsP (dropL k l) = (segsP l).drop k
  | [], k => by cases k <;> simp [dropL, segsP]
  | f :: l, k => by
    by_cases h : 0 < plcP f.n
    · cases k with
      | zero => rw [dropL_zero]; rfl
      | succ k => rw [dropL_seg h, segsP_cons, if_pos h, segs_drop l k]; rfl
    · rw [dropL_not h, segsP_cons, if_neg h, segsP_cons, if_neg h, segs_drop l k]
theorem dropL_sub : ∀ (l : List Fl) (k : Nat), (dropL k l).Sublist l
  | [], k => by cases k <;> simp [dropL]
  | f :: l, k => by
    by_cases h : 0 < plcP f.n
    · cases k with
      | zero => rw [dropL_zero]; exact List.Sublist.refl _
      | succ k => rw [dropL_seg h]; exact (dropL_sub l k).cons f
    · rw [dropL_not h]; exact (dropL_sub l k).cons_cons f
theorem dropL_cut : ∀ (l : List Fl) (k : Nat), k < (segsP l).length → ∃ A B, dropL k l = A ++ (segsP l).getD k default :: B ∧ dropL (k + 1) l = A ++ B
  | [], k, h => by simp [segsP] at h
  | f :: l, k, h => by
    by_cases hf : 0 < plcP f.n
    · rw [segsP_cons, if_pos hf] at h ⊢
      cases k with
      | zero => exact ⟨[], l, by rw [dropL_zero]; rfl, by rw [dropL_seg hf, dropL_zero]; rfl⟩
      | succ k =>
        obtain ⟨A, B, h1, h2⟩ := dropL_cut l k (by simpa using h)
        exact ⟨A, B, by rw [dropL_seg hf, h1]; rfl, by rw [dropL_seg hf, h2]⟩
    · rw [segsP_cons, if_neg hf] at h ⊢
      obtain ⟨A, B, h1, h2⟩ := dropL_cut l k h
      exact ⟨f :: A, B, by rw [dropL_not hf, h1]; rfl, by rw [dropL_not hf, h2]; rfl⟩
/-- The acts that drop the first n segments. -/
def fgA (sg : List Fl) (n : Nat) : List (Int × ByteArray) := (sg.take n).map fun f => (4, f.n)
theorem fgA_len (sg : List Fl) (n : Nat) (h : n ≤ sg.length) : (fgA sg n).length = n := by simp [fgA]; omega
theorem fgA_next (sg : List Fl) (n : Nat) (h : n < sg.length) : fgA sg (n + 1) = fgA sg n ++ [(4, (sg.getD n default).n)] := by
  unfold fgA
  rw [List.take_add_one, List.map_append, List.getElem?_eq_getElem h, List.getD_eq_getElem?_getD, List.getElem?_eq_getElem h]
  rfl
theorem fg_steps (l : List Fl) : ∀ m k, k + m ≤ (segsP l).length → Steps (dropL k l) ((((segsP l).drop k).take m).map fun f => (4, f.n)) (dropL (k + m) l) := by
  intro m
  induction m with
  | zero => intro k h; exact Steps.nil _
  | succ m ih =>
    intro k h
    obtain ⟨A, B, h1, h2⟩ := dropL_cut l k (by omega)
    have h3 := ih (k + 1) (by omega)
    rw [h2, show k + 1 + m = k + (m + 1) by omega] at h3
    have hd : (segsP l).drop k = (segsP l).getD k default :: (segsP l).drop (k + 1) := by
      rw [List.getD_eq_getElem?_getD, List.getElem?_eq_getElem (by omega)]
      exact List.drop_eq_getElem_cons (by omega)
    rw [hd, List.take_succ_cons, List.map_cons, h1]
    generalize (segsP l).getD k default = f at *
    obtain ⟨fn, fd, fs⟩ := f
    exact Steps.drop A B fn fd fs _ _ h3
theorem fg_steps0 (l : List Fl) (n : Nat) (h : n ≤ (segsP l).length) : Steps l (fgA (segsP l) n) (dropL n l) := by
  have := fg_steps l n 0 (by omega)
  rw [dropL_zero, List.drop_zero, Nat.zero_add] at this
  exact this
theorem ris_at {l : List Fl} {f : Fl} (h : Ris l) (hf : f ∈ l) : ∃ i0, i0 < l.length ∧ l.getD i0 default = f ∧ ∀ j, j < i0 → (l.getD j default).n ≠ f.n := by
  obtain ⟨A, B, rfl⟩ := List.append_of_mem hf
  exact ⟨A.length, by simp, mid_get, fun j hj => mid_no h j hj⟩
theorem ris_sub {l l' : List Fl} (h : l'.Sublist l) (hr : Ris l) : Ris l' := List.Pairwise.sublist h hr
theorem seg_in (l : List Fl) (k j : Nat) (hk : k ≤ j) (hj : j < (segsP l).length) : (segsP l).getD j default ∈ dropL k l ∧ 0 < plcP ((segsP l).getD j default).n := by
  have h1 : (segsP l).getD j default ∈ segsP (dropL k l) := by
    rw [segs_drop, List.getD_eq_getElem?_getD, List.getElem?_eq_getElem hj, Option.getD_some]
    refine List.mem_iff_getElem.2 ⟨j - k, by rw [List.length_drop]; omega, ?_⟩
    rw [List.getElem_drop]
    congr 1
    omega
  obtain ⟨h2, h3⟩ := List.mem_filter.1 h1
  exact ⟨h2, of_decide_eq_true h3⟩
/-- What forgetting leaves. -/
def wfOut (room : Int) (l : List Fl) (below : Int) : Int × List Fl × Int :=
  if (walOut room l).2 = 0 then (if below < 0 then (0, [], 4) else (room, dropL (fgN (segsP l) below 0) l, 0)) else (0, [], (walOut room l).2)
theorem wfOut_len (room : Int) (l : List Fl) (below : Int) : (wfOut room l below).2.1.length ≤ l.length := by
  unfold wfOut
  split
  · split
    · exact Nat.zero_le _
    · exact (dropL_sub l _).length_le
  · exact Nat.zero_le _
/-- A log that can be read: its disk is right, each segment without a frame or with a number ahead. -/
theorem wal_ok {room : Int} {l : List Fl} (h : (walOut room l).2 = 0) : diskB room l = true ∧ ∀ i, i < (segsP l).length → (frF ((segsP l).getD i default)).1 = [] ∨ ((frF ((segsP l).getD i default)).1.getD 0 []).length = 4 := by
  unfold walOut at h
  by_cases hd : diskB room l = true
  · rw [if_pos hd] at h
    exact ⟨hd, fun i hi => lgCode_hd (lgRun_ok _ _ 0 rfl h i (Nat.zero_le _) hi)⟩
  · rw [if_neg hd] at h
    exact absurd h (by decide)
end Go.Proofs.YtfihhkhdigbmiaaGreatDoor
namespace Go.Proofs.YtfihhkhdigbmiaaGreatDoor
open Go.ChangeShapes Go.WideShapes Go.ChangeAt Go.RowKit
set_option linter.unusedVariables false
set_option linter.unusedSimpArgs false

set_option maxRecDepth 100000 in
set_option maxHeartbeats 2000000 in
theorem readLogS_any (room : Int) (v : Value) (l : List Fl) (w : World) (h : Fls w v l) (hs : Small l) :
    Calls Tryz.prog 28 #[.agg #[.int .i64 room, v]] w fun e w' => ∃ rv nv ga gn gc, e = .returned (.tuple #[.agg #[.int .i64 (walOut room l).1.first, rv, nv, .int .i64 (walOut room l).1.torn, .slice ga gn gc], .int .i64 (walOut room l).2]) ∧ WalA (w.heap.size + 2) w' (walOut room l).1 rv nv ∧ Below w.heap.size w w' ∧ ((walOut room l).2 = 0 → ∃ xs, xs.map Prod.fst = segsP l ∧ OwnG w.heap.size w' (.slice ga gn gc) xs) := by
  have HF := hide h
  have HS := hide hs
  obtain ⟨a, cap, rfl, hn, hm, hc⟩ := h
  clear hc hm hn hs
  have B0 := hide (((Below.refl w.heap.size w).alloc (Nat.le_refl _) (.cells #[.int .i64 room, .slice a l.length cap] 28)).alloc (by simp) (.cells #[.int .i64 0, .slice none 0 0, .slice none 0 0, .int .i64 0, .slice none 0 0] 47))
  have X0 := hide ((Blk.new w #[.int .i64 room, .slice a l.length cap] 28 w.heap.size rfl).alloc (.cells #[.int .i64 0, .slice none 0 0, .slice none 0 0, .int .i64 0, .slice none 0 0] 47))
  have R0 := hide (Blk.new (w.alloc (.cells #[.int .i64 room, .slice a l.length cap] 28)) #[.int .i64 0, .slice none 0 0, .slice none 0 0, .int .i64 0, .slice none 0 0] 47 (w.heap.size + 1) (by simp))
  have Z0 : w.heap.size + 2 ≤ ((w.alloc (.cells #[.int .i64 room, .slice a l.length cap] 28)).alloc (.cells #[.int .i64 0, .slice none 0 0, .slice none 0 0, .int .i64 0, .slice none 0 0] 47)).heap.size := by simp
  go_enter Tryz.func28, Tryz.ntmps28
  go_wp2_with fail
  generalize (w.alloc (.cells #[.int .i64 room, .slice a l.length cap] 28)).alloc (.cells #[.int .i64 0, .slice none 0 0, .slice none 0 0, .int .i64 0, .slice none 0 0] 47) = w0 at *
  refine (implDiskOK_any room _ l w0 ((unhide HF).below (unhide B0)) (unhide HS)).mono ?_
  rintro e w1 ⟨rfl, hb1⟩
  have B1 := hide ((unhide B0).trans (hb1.mono (unhide B0).size))
  have X1 := hide ((unhide X0).below hb1)
  have R1 := hide ((unhide R0).below hb1)
  have Z1 : w.heap.size + 2 ≤ w1.heap.size := Nat.le_trans Z0 hb1.size
  clear hb1 B0 X0 R0 Z0
  cases hd : diskB room l
  · have HW := hide (show walOut room l = (lg0, 1) by unfold walOut; rw [hd]; rfl)
    have r0 := (unhide R1).cell 0 rfl
    have r1 := (unhide R1).cell 1 rfl
    have r2 := (unhide R1).cell 2 rfl
    have r3 := (unhide R1).cell 3 rfl
    have r4 := (unhide R1).cell 4 rfl
    have f0 := (unhide R1).fro 0
    have f1 := (unhide R1).fro 1
    have f2 := (unhide R1).fro 2
    have f3 := (unhide R1).fro 3
    have f4 := (unhide R1).fro 4
    have R2 := hide ((((((unhide R1).set 0 (.int .i64 0) (by simp)).set 1 (.slice none 0 0) (by simp)).set 2 (.slice none 0 0) (by simp)).set 3 (.int .i64 0) (by simp)).set 4 (.slice none 0 0) (by simp))
    have B2 := hide ((((((unhide B1).setCell (p := ⟨w.heap.size + 1, 0, none⟩) (by simp) (.int .i64 0)).setCell (p := ⟨w.heap.size + 1, 1, none⟩) (by simp) (.slice none 0 0)).setCell (p := ⟨w.heap.size + 1, 2, none⟩) (by simp) (.slice none 0 0)).setCell (p := ⟨w.heap.size + 1, 3, none⟩) (by simp) (.int .i64 0)).setCell (p := ⟨w.heap.size + 1, 4, none⟩) (by simp) (.slice none 0 0))
    go_wp2_with fail
    generalize ((((w1.setCell ⟨w.heap.size + 1, 0, none⟩ (.int .i64 0)).setCell ⟨w.heap.size + 1, 1, none⟩ (.slice none 0 0)).setCell ⟨w.heap.size + 1, 2, none⟩ (.slice none 0 0)).setCell ⟨w.heap.size + 1, 3, none⟩ (.int .i64 0)).setCell ⟨w.heap.size + 1, 4, none⟩ (.slice none 0 0) = w2 at *
    have z0 := (unhide R2).cell 0 rfl
    have z1 := (unhide R2).cell 1 rfl
    have z2 := (unhide R2).cell 2 rfl
    have z3 := (unhide R2).cell 3 rfl
    have z4 := (unhide R2).cell 4 rfl
    refine bodyPost_ret (v := .tuple #[.agg #[.int .i64 0, .slice none 0 0, .slice none 0 0, .int .i64 0, .slice none 0 0], .int .i64 1]) (by simp [results, Tryz.results28, go_sem, z0, z1, z2, z3, z4]) rfl ?_
    rw [unhide HW]
    exact ⟨_, _, _, _, _, rfl, WalA.none _ _, unhide B2, fun h => absurd h (show ¬ (1 : Int) = 0 by decide)⟩
  have HD := hide hd
  have HLn := hide (disk_len hd)
  have x1 := (unhide X1).cell 1 rfl
  go_wp2_with fail
  clear x1 X1
  refine (segmentsOf_any _ l w1 ((unhide HF).below (unhide B1)) (unhide HLn) (fun i hi => ⟨((unhide HS).2.2 i).1, file_small (unhide HD) i hi⟩)).mono ?_
  rintro e w2 ⟨gv, xs, rfl, hxs, hG, hb2⟩
  obtain ⟨ga, gn, gc, rfl⟩ : ∃ ga gn gc, gv = .slice ga gn gc := by
    rcases own_shape hG.1 with ⟨h, _⟩ | ⟨g, c, h, _⟩
    · exact ⟨_, _, _, h⟩
    · exact ⟨_, _, _, h⟩
  have BA := (Below.refl w2.heap.size w2).alloc (Nat.le_refl _) (.cells #[.int .i64 0, .slice none 0 0, .slice none 0 0, .int .i64 0, .slice ga gn gc] 47)
  have B3 := hide (((unhide B1).trans (hb2.mono (unhide B1).size)).trans (BA.mono (Nat.le_trans (unhide B1).size hb2.size)))
  have R3 := hide (((unhide R1).below hb2).below BA)
  have G3 := hide (hG.below BA)
  have L3 := hide (Blk.new w2 #[.int .i64 0, .slice none 0 0, .slice none 0 0, .int .i64 0, .slice ga gn gc] 47 w2.heap.size rfl)
  have Z2 : w.heap.size + 2 ≤ w2.heap.size := Nat.le_trans Z1 hb2.size
  have HGL : Hid (∀ k, (Value.slice ga gn gc).ownBlock = some k → k < w2.heap.size) := hide (fun k hk => (World.ownsRow.lt hG.1 k hk).2)
  have HGX : Hid (∀ x ∈ xs, ∀ k, x.2.ownBlock = some k → k < w2.heap.size) := hide (fun x hx k hk => ((hG.2 x hx).lt k hk).2)
  have HXS := hide hxs
  clear hG hb2 BA R1 B1 hxs
  go_wp2_with fail
  generalize w2.alloc (.cells #[.int .i64 0, .slice none 0 0, .slice none 0 0, .int .i64 0, .slice ga gn gc] 47) = w3 at *
  generalize w2.heap.size = lb at *
  have hmem : ∀ x ∈ xs, x.1 ∈ l := fun x hx => by
    have h1 : x.1 ∈ xs.map Prod.fst := List.mem_map.2 ⟨x, hx, rfl⟩
    rw [unhide HXS] at h1
    exact (List.mem_filter.1 h1).1
  refine (read_any lb w1.heap.size (.slice ga gn gc) xs w3 (unhide G3) (unhide L3) (unhide L3).1 (by have := congrArg List.length (unhide HXS); rw [List.length_map] at this; rw [this]; exact segs_len l (unhide HLn)) (fun x hx => ⟨by
    obtain ⟨i, hi, hxi⟩ := List.getElem_of_mem (hmem x hx)
    have := ((unhide HS).2.2 i).1
    rwa [List.getD_eq_getElem?_getD, List.getElem?_eq_getElem hi, Option.getD_some, hxi] at this, seg_small (unhide HD) _ (hmem x hx)⟩) (fun k hk => by have := unhide HGL k hk; omega) (fun x hx k hk => by have := unhide HGX x hx k hk; omega)).mono ?_
  rintro e w4 ⟨rfl, hS4, hT4⟩
  clear hmem
  have HW := hide (show walOut room l = lgRun (xs.map Prod.fst) 0 by unfold walOut; rw [unhide HD, unhide HXS]; rfl)
  have B4 := hide ((unhide B3).trans (hT4.below (unhide B3).size (fun k hk e => by omega)))
  have R4 := hide ((unhide R3).kept hT4 (fun e => by omega))
  have hz3 := (unhide L3).1
  have H4 := hide hS4
  have G4 := hide ((unhide G3).kept hT4 (fun k hk e => by have := unhide HGL k hk; omega) (fun x hx k hk e => by have := unhide HGX x hx k hk; omega))
  clear hS4 hT4 B3 R3 G3 L3 HGL HGX
  have r0 := (unhide R4).cell 0 rfl
  have r1 := (unhide R4).cell 1 rfl
  have r2 := (unhide R4).cell 2 rfl
  have r3 := (unhide R4).cell 3 rfl
  have r4 := (unhide R4).cell 4 rfl
  have f0 := (unhide R4).fro 0
  have f1 := (unhide R4).fro 1
  have f2 := (unhide R4).fro 2
  have f3 := (unhide R4).fro 3
  have f4 := (unhide R4).fro 4
  by_cases hc0 : (lgRun (xs.map Prod.fst) 0).2 = 0
  · obtain ⟨rv, nv, hS⟩ := unhide H4 hc0
    have HWA : Hid (WalA w3.heap.size w4 (lgRun (xs.map Prod.fst) 0).1 rv nv) := hide ⟨hS.2.1, hS.2.2.1, hS.2.2.2.1, ownS_form hS.2.1, ownS_form hS.2.2.1⟩
    obtain ⟨ra, rc, rfl⟩ := (unhide HWA).2.2.2.1
    obtain ⟨na, nc, rfl⟩ := (unhide HWA).2.2.2.2
    have L4 := hide hS.1
    clear hS H4
    generalize lgRun (xs.map Prod.fst) 0 = out at *
    obtain ⟨L, cd⟩ := out
    dsimp only at hc0 HWA L4 HW ⊢
    subst hc0
    have l0 := (unhide L4).cell 0 rfl
    have l1 := (unhide L4).cell 1 rfl
    have l2 := (unhide L4).cell 2 rfl
    have l3 := (unhide L4).cell 3 rfl
    have l4 := (unhide L4).cell 4 rfl
    have R5 := hide ((((((unhide R4).set 0 (.int .i64 L.first) (by simp)).set 1 (.slice ra L.recs.length rc) (by simp)).set 2 (.slice na L.names.length nc) (by simp)).set 3 (.int .i64 L.torn) (by simp)).set 4 (.slice ga gn gc) (by simp))
    have B5 := hide ((((((unhide B4).setCell (p := ⟨w.heap.size + 1, 0, none⟩) (by simp) (.int .i64 L.first)).setCell (p := ⟨w.heap.size + 1, 1, none⟩) (by simp) (.slice ra L.recs.length rc)).setCell (p := ⟨w.heap.size + 1, 2, none⟩) (by simp) (.slice na L.names.length nc)).setCell (p := ⟨w.heap.size + 1, 3, none⟩) (by simp) (.int .i64 L.torn)).setCell (p := ⟨w.heap.size + 1, 4, none⟩) (by simp) (.slice ga gn gc))
    have T5 := ((((((Touch.refl (fun k => k = w.heap.size + 1) w4).setCell ⟨w.heap.size + 1, 0, none⟩ (.int .i64 L.first) (fun _ => rfl)).setCell ⟨w.heap.size + 1, 1, none⟩ (.slice ra L.recs.length rc) (fun _ => rfl)).setCell ⟨w.heap.size + 1, 2, none⟩ (.slice na L.names.length nc) (fun _ => rfl)).setCell ⟨w.heap.size + 1, 3, none⟩ (.int .i64 L.torn) (fun _ => rfl)).setCell ⟨w.heap.size + 1, 4, none⟩ (.slice ga gn gc) (fun _ => rfl))
    have A5 := hide (((unhide HWA).kept T5 (fun k hk => by omega)).mono (B' := w.heap.size + 2) (by omega))
    have G5 := hide ((unhide G4).kept T5 (fun k hk e => by have := (World.ownsRow.lt (unhide G4).1 k hk).1; omega) (fun x hx k hk e => by have := (((unhide G4).2 x hx).lt k hk).1; omega))
    clear T5 HWA
    go_wp2_with fail
    generalize ((((w4.setCell ⟨w.heap.size + 1, 0, none⟩ (.int .i64 L.first)).setCell ⟨w.heap.size + 1, 1, none⟩ (.slice ra L.recs.length rc)).setCell ⟨w.heap.size + 1, 2, none⟩ (.slice na L.names.length nc)).setCell ⟨w.heap.size + 1, 3, none⟩ (.int .i64 L.torn)).setCell ⟨w.heap.size + 1, 4, none⟩ (.slice ga gn gc) = w5 at *
    have z0 := (unhide R5).cell 0 rfl
    have z1 := (unhide R5).cell 1 rfl
    have z2 := (unhide R5).cell 2 rfl
    have z3 := (unhide R5).cell 3 rfl
    have z4 := (unhide R5).cell 4 rfl
    refine bodyPost_ret (v := .tuple #[.agg #[.int .i64 L.first, .slice ra L.recs.length rc, .slice na L.names.length nc, .int .i64 L.torn, .slice ga gn gc], .int .i64 0]) (by simp [results, Tryz.results28, go_sem, z0, z1, z2, z3, z4]) rfl ?_
    rw [unhide HW]
    exact ⟨_, _, _, _, _, rfl, unhide A5, unhide B5, fun _ => ⟨xs, unhide HXS, World.ownsRow.mono (unhide G5).1 (by omega), fun x hx => OwnS.mono ((unhide G5).2 x hx) (by omega)⟩⟩
  · have HBAD : Hid (lgRun (xs.map Prod.fst) 0 = (lg0, (lgRun (xs.map Prod.fst) 0).2)) := hide (lgRun_bad _ _ 0 rfl hc0)
    have hcb : ((lgRun (xs.map Prod.fst) 0).2 == 0) = false := by rw [beq_eq_false_iff_ne]; exact hc0
    generalize hcc : (lgRun (xs.map Prod.fst) 0).2 = cd at *
    clear hcc H4
    have R5 := hide ((((((unhide R4).set 0 (.int .i64 0) (by simp)).set 1 (.slice none 0 0) (by simp)).set 2 (.slice none 0 0) (by simp)).set 3 (.int .i64 0) (by simp)).set 4 (.slice none 0 0) (by simp))
    have B5 := hide ((((((unhide B4).setCell (p := ⟨w.heap.size + 1, 0, none⟩) (by simp) (.int .i64 0)).setCell (p := ⟨w.heap.size + 1, 1, none⟩) (by simp) (.slice none 0 0)).setCell (p := ⟨w.heap.size + 1, 2, none⟩) (by simp) (.slice none 0 0)).setCell (p := ⟨w.heap.size + 1, 3, none⟩) (by simp) (.int .i64 0)).setCell (p := ⟨w.heap.size + 1, 4, none⟩) (by simp) (.slice none 0 0))
    go_wp2_with fail
    generalize ((((w4.setCell ⟨w.heap.size + 1, 0, none⟩ (.int .i64 0)).setCell ⟨w.heap.size + 1, 1, none⟩ (.slice none 0 0)).setCell ⟨w.heap.size + 1, 2, none⟩ (.slice none 0 0)).setCell ⟨w.heap.size + 1, 3, none⟩ (.int .i64 0)).setCell ⟨w.heap.size + 1, 4, none⟩ (.slice none 0 0) = w5 at *
    have z0 := (unhide R5).cell 0 rfl
    have z1 := (unhide R5).cell 1 rfl
    have z2 := (unhide R5).cell 2 rfl
    have z3 := (unhide R5).cell 3 rfl
    have z4 := (unhide R5).cell 4 rfl
    refine bodyPost_ret (v := .tuple #[.agg #[.int .i64 0, .slice none 0 0, .slice none 0 0, .int .i64 0, .slice none 0 0], .int .i64 cd]) (by simp [results, Tryz.results28, go_sem, z0, z1, z2, z3, z4]) rfl ?_
    rw [unhide HW, unhide HBAD]
    exact ⟨_, _, _, _, _, rfl, WalA.none _ _, unhide B5, fun h => absurd h hc0⟩
end Go.Proofs.YtfihhkhdigbmiaaGreatDoor
namespace Go.Proofs.YtfihhkhdigbmiaaGreatDoor
open Go.ChangeShapes Go.WideShapes Go.ChangeAt Go.RowKit
set_option linter.unusedVariables false

theorem used_mono (l : List Fl) (i j : Nat) (h : i ≤ j) : usedTo l i ≤ usedTo l j := by
  induction j with
  | zero => obtain rfl : i = 0 := by omega
            exact Int.le_refl _
  | succ j ih =>
    by_cases e : i = j + 1
    · subst e; exact Int.le_refl _
    · have := ih (by omega)
      show _ ≤ usedTo l j + _
      omega
theorem disk_big {room : Int} {l : List Fl} {k : Nat} (hk : k < l.length) (h0 : 0 ≤ usedTo l k) (h : 3000 < (l.getD k default).d.size) : diskB room l = false := by
  have h1 : usedTo l (k + 1) = usedTo l k + ((l.getD k default).d.size : Int) := rfl
  have h2 := used_mono l (k + 1) l.length (by omega)
  unfold diskB
  by_cases hin : inB room 0 3000 = true
  · have := (inB_iff.1 hin).2
    rw [decide_eq_false (p := usedTo l l.length ≤ room) (by omega)]; simp
  · rw [Bool.not_eq_true] at hin; rw [hin]; simp

set_option maxRecDepth 100000 in
set_option maxHeartbeats 1000000 in
theorem specDiskOK_any (room : Int) (v : Value) (l : List Fl) (w : World) (h : Fls w v l) (hs : Small l) :
    Calls Tryz.prog 15 #[.agg #[.int .i64 room, v]] w fun e w' => e = .returned (.bool (diskB room l)) ∧ Below w.heap.size w w' := by
  have HF := hide h
  obtain ⟨a, cap, rfl, hn, hm, hc⟩ := h
  have HC := hide hc
  have HS := hide hs
  clear hc hs
  have B0 := hide ((Below.refl w.heap.size w).alloc (Nat.le_refl _) (.cells #[.int .i64 room, .slice a l.length cap] 28))
  have X0 := hide (Blk.new w #[.int .i64 room, .slice a l.length cap] 28 w.heap.size rfl)
  have Z0 : w.heap.size < (w.alloc (.cells #[.int .i64 room, .slice a l.length cap] 28)).heap.size := by simp
  rcases Bool.eq_false_or_eq_true (inB room 0 3000) with hin | hin
  · by_cases h8 : l.length ≤ 8
    · have h8b : ¬ (8 : Int) < (l.length : Int) := by omega
      go_enter Tryz.func15, Tryz.ntmps15
      go_wp2_with fail
      generalize w.alloc (.cells #[.int .i64 room, .slice a l.length cap] 28) = w0 at *
      have c0 := (unhide X0).cell 0 rfl
      have c1 := (unhide X0).cell 1 rfl
      refine (l01In_any room 0 3000 w0).mono ?_
      rintro e w' ⟨rfl, hw'⟩
      have hw2 := hw'.symm
      clear hw'
      subst hw2
      rw [hin]
      go_wp2_with fail
      go_loopw [3] (fun i wr => ∃ k : Nat, k ≤ l.length ∧ i = .int .i64 k ∧ allTo l k ∧ Below (w.heap.size + 1) w0 wr) (fun i _ => l.length - (intOf i).toNat)
      case atStart => exact ⟨0, Nat.zero_le _, rfl, fun i hi => by omega, Below.refl _ _⟩
      case round =>
        obtain ⟨k, hk, rfl, hgo, hb⟩ := hrel
        by_cases hlt : k < l.length
        · obtain ⟨b, off, rfl, hbl, hsrc⟩ : ∃ b off, a = some ⟨b, off, none⟩ ∧ b < w.heap.size ∧ ∀ i, i < l.length → w.cell? ⟨b, off + i * 3, none⟩ = some (.string (l.getD i default).n) ∧ w.cell? ⟨b, off + i * 3 + 1, none⟩ = some (.string (l.getD i default).d) ∧ w.cell? ⟨b, off + i * 3 + 2, none⟩ = some (.int .i64 (l.getD i default).s) := by
            rcases unhide HC with h0 | h1
            · omega
            · exact h1
          have hbw : Below w.heap.size w wr := (unhide B0).trans (hb.mono (by omega))
          obtain ⟨s0, s1, s2⟩ := hsrc k hlt
          have e0 := (hbw.cell (p := ⟨b, off + k * 3, none⟩) hbl).trans s0
          have e1 := (hbw.cell (p := ⟨b, off + k * 3 + 1, none⟩) hbl).trans s1
          have e2 := (hbw.cell (p := ⟨b, off + k * 3 + 2, none⟩) hbl).trans s2
          have d0 := (hb.cell (p := ⟨w.heap.size, 0, none⟩) (by simp)).trans c0
          have d1 := (hb.cell (p := ⟨w.heap.size, 1, none⟩) (by simp)).trans c1
          have hk0 : (0 : Int) ≤ (k : Int) := by omega
          have hk1 : (k : Int) < (l.length : Int) := by omega
          have hfz := (unhide HS).2.2 k
          have hbs := hbw.size
          have hbs2 := hb.size
          have HB := hide hb
          have HSR := hide hsrc
          clear hsrc s0 s1 s2 hb hbw
          obtain ⟨f, hf⟩ : ∃ f, f = l.getD k default := ⟨_, rfl⟩
          rw [← hf] at e0 e1 e2 hfz
          have HFe := hide hf
          clear hf
          obtain ⟨fn, fd, fs⟩ := f
          dsimp only at e0 e1 e2 hfz
          have hnm : fn.size ≤ maxLen := by unfold maxLen; omega
          have b0 := hide ((Below.refl wr.heap.size wr).alloc (Nat.le_refl _) (.cells #[.string fn, .string fd, .int .i64 fs] 68))
          have y0 := hide (Blk.new wr #[.string fn, .string fd, .int .i64 fs] 68 wr.heap.size rfl)
          have HFB : Hid (fileB l k = (nameB fn && inB fs 0 fd.size && (decide (k = 0) || lessB (l.getD (k - 1) default).n fn))) := hide (by unfold fileB; rw [← unhide HFe])
          have HGo := hide hgo
          clear hgo
          go_wp2_with fail
          generalize wr.alloc (.cells #[.string fn, .string fd, .int .i64 fs] 68) = w1 at *
          have g0 := (unhide y0).cell 0 rfl
          have g1 := (unhide y0).cell 1 rfl
          have g2 := (unhide y0).cell 2 rfl
          have hd0 := ((unhide b0).cell (p := ⟨w.heap.size, 0, none⟩) (by simp; omega)).trans d0
          have hd1 := ((unhide b0).cell (p := ⟨w.heap.size, 1, none⟩) (by simp; omega)).trans d1
          have hB1 := hide ((unhide HB).trans ((unhide b0).mono (by omega)))
          have hB2 := hide ((unhide B0).trans ((unhide hB1).mono (by omega)))
          clear d0 d1 e0 e1 e2
          cases hnb : nameB fn
          · have HD := hide (disk_bad (room := room) hlt (by rw [unhide HFB, hnb]; simp))
            have hsn := hide (fun wx => specName_any fn wx hnm)
            rw [hnb] at hsn
            go_quiet (first | (go_at_call 32; exact Calls.quiet_of_same (unhide hsn _)))
            go_wp2_with fail
            go_ret
            exact ⟨ret_bool (unhide HD).symm, below_drewN (unhide hB2) _⟩
          · have hsn := hide (fun wx => specName_any fn wx hnm)
            rw [hnb] at hsn
            have hli := hide (fun wx => l01In_any fs 0 fd.size wx)
            rcases Bool.eq_false_or_eq_true (inB fs 0 fd.size) with hif | hif
            · rw [hif] at hli
              by_cases hbig : 3000 < fd.size
              · have HD := hide (disk_big (room := room) (k := k) hlt ((unhide HS).2.1 k hk).1 (by rw [← unhide HFe]; exact hbig))
                have hb1 : (3000 : Int) < (fd.size : Int) := by omega
                go_quiet (first | (go_at_call 32; exact Calls.quiet_of_same (unhide hsn _)) | (go_at_call 31; exact Calls.quiet_of_same (unhide hli _)))
                go_wp2_with fail
                go_ret
                exact ⟨ret_bool (unhide HD).symm, below_drewN (unhide hB2) _⟩
              · have hb1 : decide ((3000 : Int) < (fd.size : Int)) = false := by rw [decide_eq_false_iff_not]; omega
                have hb2 : decide (3000 < fd.size) = false := by rw [decide_eq_false_iff_not]; omega
                by_cases hk00 : k = 0
                · subst hk00
                  have HN := hide ((unhide HGo).next (by rw [unhide HFB, hnb, hif]; simp))
                  go_quiet (first | (go_at_call 32; exact Calls.quiet_of_same (unhide hsn _)) | (go_at_call 31; exact Calls.quiet_of_same (unhide hli _)))
                  go_wp2_with fail
                  refine ⟨⟨1, by omega, by go_num, unhide HN, below_drewN (unhide hB1) _⟩, ?_⟩
                  simp [intOf]; omega
                · obtain ⟨q, hq⟩ : ∃ q : Nat, (k : Int) - 1 = (q : Int) := ⟨k - 1, by omega⟩
                  obtain ⟨t0, _, _⟩ := unhide HSR q (by omega)
                  obtain ⟨g, hg⟩ : ∃ g, g = l.getD q default := ⟨_, rfl⟩
                  rw [← hg] at t0
                  have HGe := hide hg
                  clear hg
                  obtain ⟨gn, gd, gs⟩ := g
                  dsimp only at t0
                  have e3 := ((unhide b0).cell (p := ⟨b, off + q * 3, none⟩) (by simp; omega)).trans (((unhide HB).cell (p := ⟨b, off + q * 3, none⟩) (by simp; omega)).trans (((unhide B0).cell (p := ⟨b, off + q * 3, none⟩) hbl).trans t0))
                  have p1 : 0 < k := by omega
                  have p1d : decide (0 < k) = true := by simpa using p1
                  have p2 : IntKind.i64.wrap (q : Int) = (q : Int) := wrapJ _ (by omega) (by omega)
                  have p3 : (0 : Int) ≤ (q : Int) := by omega
                  have p4 : (q : Int) < (l.length : Int) := by omega
                  have HFB2 : Hid (fileB l k = lessB gn fn) := hide (by
                    rw [unhide HFB, hnb, hif, show k - 1 = q by omega, ← unhide HGe]; simp [hk00])
                  clear t0
                  cases hlb : lessB gn fn
                  · rw [hlb] at HFB2
                    have hlb2 : Op.bytesLess gn.toList fn.toList = false := hlb
                    have HD := hide (disk_bad (room := room) hlt (unhide HFB2))
                    go_quiet (first | (go_at_call 32; exact Calls.quiet_of_same (unhide hsn _)) | (go_at_call 31; exact Calls.quiet_of_same (unhide hli _)))
                    go_wp2_with fail
                    go_ret
                    exact ⟨ret_bool (unhide HD).symm, below_drewN (unhide hB2) _⟩
                  · rw [hlb] at HFB2
                    have hlb2 : Op.bytesLess gn.toList fn.toList = true := hlb
                    have HN := hide ((unhide HGo).next (unhide HFB2))
                    go_quiet (first | (go_at_call 32; exact Calls.quiet_of_same (unhide hsn _)) | (go_at_call 31; exact Calls.quiet_of_same (unhide hli _)))
                    go_wp2_with fail
                    refine ⟨⟨k + 1, by omega, by go_num, unhide HN, below_drewN (unhide hB1) _⟩, ?_⟩
                    simp [intOf]; omega
            · rw [hif] at hli
              have HD := hide (disk_bad (room := room) hlt (by rw [unhide HFB, hif]; simp))
              go_quiet (first | (go_at_call 32; exact Calls.quiet_of_same (unhide hsn _)) | (go_at_call 31; exact Calls.quiet_of_same (unhide hli _)))
              go_wp2_with fail
              go_ret
              exact ⟨ret_bool (unhide HD).symm, below_drewN (unhide hB2) _⟩
        · obtain rfl : k = l.length := by omega
          have HD := hide (disk_all (room := room) hin h8 hgo)
          have hbw : Below w.heap.size w wr := (unhide B0).trans (hb.mono (by omega))
          have HBW := hide hbw
          have d0 := (hb.cell (p := ⟨w.heap.size, 0, none⟩) (by simp)).trans c0
          have d1 := (hb.cell (p := ⟨w.heap.size, 1, none⟩) (by simp)).trans c1
          have hbs := hbw.size
          have hbs2 := hb.size
          clear hb hbw hgo
          have HFB := hide (l03Used_any room (.slice a l.length cap) l wr.drew ((unhide HF).below (below_drewN (unhide HBW) 1)) (unhide HS).2.1 (unhide HS).1)
          obtain ⟨u, hu⟩ : ∃ u, u = usedTo l l.length := ⟨_, rfl⟩
          rw [← hu] at HFB HD
          clear hu
          go_wp2_with fail
          go_region_held3 (fun wx => wx.cell? ⟨w.heap.size, 0, none⟩ = some (.int .i64 room) ∧ wx.cell? ⟨w.heap.size, 1, none⟩ = some (.slice a l.length cap)) (first | go_keep | exact ⟨(hb2.cell (p := ⟨w.heap.size, 0, none⟩) (by simp; omega)).trans d0, (hb2.cell (p := ⟨w.heap.size, 1, none⟩) (by simp; omega)).trans d1⟩) ((go_at_call 33; refine (unhide HFB).mono ?_; rintro e w2 ⟨rfl, hb2⟩))
          all_goals
            have hbz := (unhide HBW).trans (show Below w.heap.size wr w2 from (below_drewN (Below.refl _ wr) 1).trans (hb2.mono (by simpa using hbs)))
            have HBZ := hide hbz
            clear hbz hb2
            go_wp2_with fail
            go_ret
            exact ⟨ret_bool (unhide HD).symm, unhide HBZ⟩
    · have HD : Hid (diskB room l = false) := hide (by unfold diskB; rw [decide_eq_false h8]; simp)
      have h8b : (8 : Int) < (l.length : Int) := by omega
      go_enter Tryz.func15, Tryz.ntmps15
      go_wp2_with fail
      generalize w.alloc (.cells #[.int .i64 room, .slice a l.length cap] 28) = w0 at *
      have c0 := (unhide X0).cell 0 rfl
      have c1 := (unhide X0).cell 1 rfl
      refine (l01In_any room 0 3000 w0).mono ?_
      rintro e w' ⟨rfl, hw'⟩
      have hw2 := hw'.symm
      clear hw'
      subst hw2
      rw [hin]
      go_wp2_with fail
      go_ret
      exact ⟨ret_bool (unhide HD).symm, unhide B0⟩
  · have HD : Hid (diskB room l = false) := hide (by unfold diskB; rw [hin]; simp)
    go_enter Tryz.func15, Tryz.ntmps15
    go_wp2_with fail
    generalize w.alloc (.cells #[.int .i64 room, .slice a l.length cap] 28) = w0 at *
    have c0 := (unhide X0).cell 0 rfl
    have c1 := (unhide X0).cell 1 rfl
    refine (l01In_any room 0 3000 w0).mono ?_
    rintro e w' ⟨rfl, hw'⟩
    have hw2 := hw'.symm
    clear hw'
    subst hw2
    rw [hin]
    go_wp2_with fail
    go_ret
    exact ⟨ret_bool (unhide HD).symm, unhide B0⟩
end Go.Proofs.YtfihhkhdigbmiaaGreatDoor
namespace Go.Proofs.YtfihhkhdigbmiaaGreatDoor
open Go.ChangeShapes Go.WideShapes Go.ChangeAt Go.RowKit Go.Maps Go.Sort
set_option linter.unusedVariables false
set_option linter.unusedSimpArgs false

/-- The files, the last segment sure. -/
def syncL (l : List Fl) : List Fl :=
  if (segsP l).length = 0 then l else l.map fun g => if nmL g = nmL ((segsP l).getD ((segsP l).length - 1) default) then ⟨g.n, g.d, (g.d.size : Int)⟩ else g
theorem seg_last {l : List Fl} (hr : Ris l) (h : ¬ (segsP l).length = 0) : ∃ A B f, l = A ++ f :: B ∧ (segsP l).getD ((segsP l).length - 1) default = f ∧ 0 < plcP f.n ∧ syncL l = A ++ ⟨f.n, f.d, (f.d.size : Int)⟩ :: B := by
  obtain ⟨f, hf⟩ : ∃ f, f = (segsP l).getD ((segsP l).length - 1) default := ⟨_, rfl⟩
  have hmem : f ∈ segsP l := by
    rw [hf, List.getD_eq_getElem?_getD, List.getElem?_eq_getElem (by omega)]
    exact List.getElem_mem _
  have hm2 := List.mem_filter.1 hmem
  obtain ⟨A, B, hl⟩ := List.append_of_mem hm2.1
  refine ⟨A, B, f, hl, hf.symm, of_decide_eq_true hm2.2, ?_⟩
  have hno := (ris_mid (hl ▸ hr)).2.2.2
  unfold syncL
  rw [if_neg h, ← hf]
  conv => lhs; arg 2; rw [hl]
  rw [List.map_append, List.map_cons, if_pos rfl]
  congr 1
  · refine (List.map_congr_left fun g hg => ?_).trans (List.map_id A)
    rw [if_neg (hno g (List.mem_append_left _ hg))]; rfl
  · congr 1
    refine (List.map_congr_left fun g hg => ?_).trans (List.map_id B)
    rw [if_neg (hno g (List.mem_append_right _ hg))]; rfl
set_option maxRecDepth 100000 in
set_option maxHeartbeats 8000000 in
theorem l04Sync_any (room : Int) (v : Value) (l : List Fl) (w : World) (hL : Fls w v l) (hr : Ris l) (hl : l.length ≤ 8) (hz : ∀ i, i < l.length → (l.getD i default).n.size ≤ 1048576) (hd : ∀ f ∈ l, f.d.size ≤ maxLen) :
    Calls Tryz.prog 17 #[.agg #[.int .i64 room, v]] w fun e w' => ∃ a c, e = .returned (.agg #[.int .i64 room, .slice a (syncL l).length c]) ∧ Fls w' (.slice a (syncL l).length c) (syncL l) ∧ Below w.heap.size w w' := by
  have HL := hide (fun wx (hx : Below w.heap.size w wx) => hL.below hx)
  obtain ⟨a, cap, rfl, hn, hm, _⟩ := id hL
  have HSG := hide (fun wx (hx : Below w.heap.size w wx) => l04Segments_any room (.slice a l.length cap) l wx (hL.below hx) hl hz)
  have B0 := hide (((Below.refl w.heap.size w).alloc (Nat.le_refl _) (.cells #[.int .i64 room, .slice a l.length cap] 28)).alloc (by simp) (.cells #[.int .i64 0, .slice none 0 0] 28))
  have X0 := hide ((Blk.new w #[.int .i64 room, .slice a l.length cap] 28 w.heap.size rfl).alloc (.cells #[.int .i64 0, .slice none 0 0] 28))
  have D0 := hide (Blk.new (w.alloc (.cells #[.int .i64 room, .slice a l.length cap] 28)) #[.int .i64 0, .slice none 0 0] 28 (w.heap.size + 1) (by simp))
  clear hL
  obtain ⟨so, hso⟩ : ∃ so, so = syncL l := ⟨_, rfl⟩
  rw [← hso]
  go_enter Tryz.func17, Tryz.ntmps17
  go_upto_region 1 with fail
  generalize (w.alloc (.cells #[.int .i64 room, .slice a l.length cap] 28)).alloc (.cells #[.int .i64 0, .slice none 0 0] 28) = w0 at *
  obtain ⟨⟨x0, x1⟩, _⟩ := Blk.c2 (unhide X0)
  go_wp2_with fail
  refine (unhide HSG _ (unhide B0)).mono ?_
  rintro e w1 ⟨nv, rfl, hN1, hb1⟩
  have B1 := hide ((unhide B0).trans (hb1.mono (unhide B0).size))
  have X1 := hide ((unhide X0).below hb1)
  have D1 := hide ((unhide D0).below hb1)
  have N1 := hide hN1
  have hnl : (numsP l).length = (segsP l).length := by simp [numsP]
  obtain ⟨na, nc, rfl⟩ : ∃ na nc, nv = .slice na (segsP l).length nc := by
    rw [← hnl]
    rcases own_shape hN1 with ⟨rfl, h0⟩ | ⟨g, c, rfl, _⟩
    · exact ⟨none, 0, by rw [h0]⟩
    · exact ⟨_, _, rfl⟩
  clear HSG hb1 B0 X0 D0 x0 x1 hN1
  obtain ⟨⟨x0, x1⟩, _⟩ := Blk.c2 (unhide X1)
  obtain ⟨⟨d0, d1⟩, g0, g1⟩ := Blk.c2 (unhide D1)
  by_cases h0 : (segsP l).length = 0
  · have hsy : l = so := (hso.trans (if_pos h0)).symm
    clear hso
    subst hsy
    have hq : (((segsP l).length : Int) == 0) = true := beq_iff_eq.2 (by omega)
    have hT := ((Touch.refl (fun q => q = w.heap.size + 1) w1).setCell ⟨w.heap.size + 1, 0, none⟩ (.int .i64 room) (fun _ => rfl)).setCell ⟨w.heap.size + 1, 1, none⟩ (.slice a l.length cap) (fun _ => rfl)
    have HY := hide (((unhide D1).set 0 (.int .i64 room) (by simp)).set 1 (.slice a l.length cap) (by simp))
    have HK := hide ((unhide B1).trans (hT.below (unhide B1).size (fun q hq e => by omega)))
    clear hT B1 X1 D1 N1 hnl
    go_wp2_with fail
    obtain ⟨⟨z0, z1⟩, _⟩ := Blk.c2 (unhide HY)
    refine bodyPost_ret (v := .agg #[.int .i64 room, .slice a l.length cap]) (by simp [results, Tryz.results17, go_sem, z0, z1]) rfl ?_
    exact ⟨a, cap, rfl, unhide HL _ (unhide HK), unhide HK⟩
  · have hq : (((segsP l).length : Int) == 0) = false := beq_eq_false_iff_ne.2 (by omega)
    obtain ⟨A, B, f, hcut, hlast, hpl, hsy⟩ := seg_last hr h0
    have hse := hso.trans hsy
    clear hso
    have hpr := plc_range f.n
    have HNM := hide (fun wx => l04Name_any (plcP f.n) wx hpr.1 hpr.2)
    rw [segN_plc hpl] at HNM
    have hfd : f.d.size ≤ maxLen := hd f (by rw [hcut]; exact List.mem_append_right _ (List.mem_cons_self ..))
    have HST := hide (fun wx (hx : Below w.heap.size w wx) => step_sync room (.slice a l.length cap) A B f.n f.d f.s wx (by have h9 := unhide HL wx hx; rw [hcut] at h9 ⊢; exact h9) (by rw [hcut] at hr; exact hr) (by rw [hcut] at hl; exact hl) hfd)
    have hnum : (numsP l).getD ((segsP l).length - 1) 0 = plcP f.n := by
      unfold numsP
      rw [List.getD_eq_getElem?_getD, List.getElem?_map]
      rw [List.getD_eq_getElem?_getD, List.getElem?_eq_getElem (by omega)] at hlast
      rw [List.getElem?_eq_getElem (by omega)]
      have e : (segsP l)[(segsP l).length - 1] = f := hlast
      rw [e]; rfl
    obtain ⟨g, hg⟩ : ∃ g, na = some ⟨g, 0, none⟩ := by
      rcases own_shape (unhide N1) with ⟨h, _⟩ | ⟨g, c, h, _⟩
      · obtain ⟨_, h2, _⟩ := Value.slice.inj h; omega
      · obtain ⟨h1, _, _⟩ := Value.slice.inj h; exact ⟨g, h1⟩
    subst hg
    have hcl := OwnN.cell (unhide N1) ((segsP l).length - 1) (by rw [hnl]; omega)
    rw [hnum] at hcl
    have hgl : g < w1.heap.size := (World.ownsRow.lt (unhide N1) g rfl).2
    have hsub : ((segsP l).length : Int) - 1 = (((segsP l).length - 1 : Nat) : Int) := by omega
    have hseg8 : (segsP l).length ≤ 8 := by
      have h1 := List.length_filter_le (fun f : Fl => decide (0 < plcP f.n)) l
      unfold segsP
      omega
    have hk0 : (0 : Int) ≤ (((segsP l).length - 1 : Nat) : Int) := by omega
    have hk1 : (((segsP l).length - 1 : Nat) : Int) < ((segsP l).length : Int) := by omega
    have hwrp : IntKind.i64.wrap (((segsP l).length - 1 : Nat) : Int) = (((segsP l).length - 1 : Nat) : Int) := wrapJ _ (by omega) (by omega)
    have hlrl : (A ++ Fl.mk f.n f.d (f.d.size : Int) :: B).length ≤ 8 := by have := hl; rw [hcut] at this; simpa using this
    rw [← hse] at HST hlrl
    clear hcut hlast hsy hnum hpl hpr hfd hse
    generalize (segsP l).length = sn at *
    generalize plcP f.n = pn at *
    generalize f.n = fn at *
    go_upto_region 4 with fail
    have hd1 : Below w1.heap.size w1 w1.drew := below_drewN (Below.refl w1.heap.size w1) 1
    clear x0 x1 d0 d1 g0 g1 N1 hnl hr hq h0
    have BB := hide ((unhide B1).trans (hd1.mono (unhide B1).size))
    have XX := hide ((unhide X1).below hd1)
    have DD := hide ((unhide D1).below hd1)
    have CC := hide ((hd1.cell (p := ⟨g, sn - 1, none⟩) hgl).trans hcl)
    have hgl1 : g < w1.drew.heap.size := Nat.lt_of_lt_of_le hgl hd1.size
    clear hd1 B1 X1 D1 hcl hgl
    have hSS := (Blk.c2 (unhide XX)).1
    refine wp_region_noPanic ?_
    refine wp_region_held_drew (S := (fun wx => wx.cell? ⟨w.heap.size, 0, none⟩ = some (.int .i64 room) ∧ wx.cell? ⟨w.heap.size, 1, none⟩ = some (.slice a l.length cap) ∧ wx.cell? ⟨g, sn - 1, none⟩ = some (.int .i64 pn))) (by kernel_rfl) ?_ (fun hHeld => ?_)
    · exact ⟨hSS.1, hSS.2, unhide CC⟩
    generalize w1.drew = wd at *
    clear hSS
    refine tkH 0 rfl ?_
    refine tkH 1 rfl ?_
    refine tkH 2 rfl ?_
    refine tkH 3 rfl ?_
    refine tkH 4 rfl ?_
    refine tkH 5 rfl ?_
    refine tkH 6 rfl ?_
    refine wpAnyH_ready (rs := [7, 13]) (by kernel_rfl) (by simp) ?_
    refine AllReadyH.cons (o := _) rfl (fun K hK => ?_) (AllReadyH.cons (o := _) rfl (fun K hK => ?_) AllReadyH.nil)
    · go_simp
      refine (unhide HNM _).mono ?_
      rintro e w1c ⟨rfl, hb⟩
      replace BB := hide ((unhide BB).trans (hb.mono (unhide BB).size))
      replace XX := hide ((unhide XX).below hb)
      replace DD := hide ((unhide DD).below hb)
      replace CC := hide ((hb.cell (p := ⟨g, sn - 1, none⟩) hgl1).trans (unhide CC))
      replace hgl1 := Nat.lt_of_lt_of_le hgl1 hb.size
      clear hb
      go_wp2_with fail
      refine hK.out _ _ ?_ (fun hHeld => ?_)
      · exact ⟨(Blk.c2 (unhide XX)).1.1, (Blk.c2 (unhide XX)).1.2, unhide CC⟩
      clear hK K
      (try simp only [Act.put, List.getElem_toArray, List.getElem_cons_succ, List.getElem_cons_zero, List.setIfInBounds_toArray, List.set_cons_zero, List.set_cons_succ])
      refine tkH 8 rfl ?_
      refine wpAnyH_ready (rs := [9, 13]) (by kernel_rfl) (by simp) ?_
      refine AllReadyH.cons (o := _) rfl (fun K hK => ?_) (AllReadyH.cons (o := _) rfl (fun K hK => ?_) AllReadyH.nil)
      · go_simp
        refine (unhide HST _ (unhide BB)).mono ?_
        rintro e w2c ⟨sa, sc, rfl, hO, hb⟩
        have hDs := (unhide DD).1
        have FF := hide (show OwnF (w.heap.size + 2) w2c (.slice sa so.length sc) so from World.ownsRow.mono hO (by omega))
        replace BB := hide ((unhide BB).trans (hb.mono (unhide BB).size))
        replace XX := hide ((unhide XX).below hb)
        replace DD := hide ((unhide DD).below hb)
        replace CC := hide ((hb.cell (p := ⟨g, sn - 1, none⟩) hgl1).trans (unhide CC))
        replace hgl1 := Nat.lt_of_lt_of_le hgl1 hb.size
        clear hb hO
        go_wp2_with fail
        refine hK.out _ _ ?_ (fun hHeld => ?_)
        · exact ⟨(Blk.c2 (unhide XX)).1.1, (Blk.c2 (unhide XX)).1.2, unhide CC⟩
        clear hK K
        (try simp only [Act.put, List.getElem_toArray, List.getElem_cons_succ, List.getElem_cons_zero, List.setIfInBounds_toArray, List.set_cons_zero, List.set_cons_succ])
        refine tkH 10 rfl ?_
        refine tkH 11 rfl ?_
        refine tkH 12 rfl ?_
        refine wpAnyH_ready (rs := [13]) (by kernel_rfl) (by simp) ?_
        refine AllReadyH.cons (o := _) rfl (fun K hK => ?_) AllReadyH.nil
        go_simp
        have hb := (Below.refl w2c.heap.size w2c).alloc (Nat.le_refl _) (.cells #[.int .i64 0, .slice none 0 0] 28)
        have OO := hide (Blk.new w2c #[.int .i64 0, .slice none 0 0] 28 w2c.heap.size rfl)
        have hob : w.heap.size + 1 < w2c.heap.size := (unhide DD).1
        have hgob : g < w2c.heap.size := hgl1
        replace BB := hide ((unhide BB).trans (hb.mono (unhide BB).size))
        replace XX := hide ((unhide XX).below hb)
        replace DD := hide ((unhide DD).below hb)
        replace CC := hide ((hb.cell (p := ⟨g, sn - 1, none⟩) hgl1).trans (unhide CC))
        replace hgl1 := Nat.lt_of_lt_of_le hgl1 hb.size
        have HNE := hide (fun (q : Nat) (hq : (Value.slice sa so.length sc).ownBlock = some q) => (show ¬ q = w2c.heap.size from by have := (World.ownsRow.lt (unhide FF) q hq).2; omega))
        replace FF := hide ((unhide FF).below hb)
        clear hb
        refine hK.out _ _ ?_ (fun hHeld => ?_)
        · exact ⟨(Blk.c2 (unhide XX)).1.1, (Blk.c2 (unhide XX)).1.2, unhide CC⟩
        clear hK K
        (try simp only [Act.put, List.getElem_toArray, List.getElem_cons_succ, List.getElem_cons_zero, List.setIfInBounds_toArray, List.set_cons_zero, List.set_cons_succ])
        generalize w2c.alloc (.cells #[.int .i64 0, .slice none 0 0] 28) = w3c at *
        generalize w2c.heap.size = ob at *
        have hS := ((Touch.refl (fun q => q = ob) w3c).setCell ⟨ob, 0, none⟩ (.int .i64 room) (fun _ => rfl)).setCell ⟨ob, 1, none⟩ (.slice sa so.length sc) (fun _ => rfl)
        have hrw := (unhide BB).size
        have X9 := (unhide XX).kept hS (by omega)
        have D9 := hide ((unhide DD).kept hS (by omega))
        have C9 := (hS.cell (p := ⟨g, sn - 1, none⟩) hgl1 (fun e => by have e2 : g = ob := e; omega)).trans (unhide CC)
        have B9 := hide ((unhide BB).trans (hS.below (unhide BB).size (fun q hq e => by omega)))
        have O9 := hide (((unhide OO).set 0 (.int .i64 room) (by simp)).set 1 (.slice sa so.length sc) (by simp))
        obtain ⟨⟨y0, y1⟩, h0, h1⟩ := Blk.c2 (unhide OO)
        clear BB XX DD OO
        refine wpAnyH_ready (rs := [14]) (by kernel_rfl) (by simp) ?_
        refine AllReadyH.cons (o := _) rfl (fun K hK => ?_) AllReadyH.nil
        go_simp
        refine hK.out _ _ ?_ (fun hHeld => ?_)
        · exact ⟨(Blk.c2 X9).1.1, (Blk.c2 X9).1.2, C9⟩
        clear hK K
        (try simp only [Act.put, List.getElem_toArray, List.getElem_cons_succ, List.getElem_cons_zero, List.setIfInBounds_toArray, List.set_cons_zero, List.set_cons_succ])
        refine tkH 15 rfl ?_
        refine wpAnyH_done (by kernel_rfl) (NoPanic.normal ?_) _
        clear hHeld y0 y1 h0 h1 X9 C9 CC
        have F9 := hide ((unhide FF).kept hS (fun q hq e => by have := unhide HNE q hq; omega))
        generalize (w3c.setCell ⟨ob, 0, none⟩ (.int .i64 room)).setCell ⟨ob, 1, none⟩ (.slice sa so.length sc) = w9 at *
        clear hS FF
        have hT := ((Touch.refl (fun q => q = w.heap.size + 1) w9).setCell ⟨w.heap.size + 1, 0, none⟩ (.int .i64 room) (fun _ => rfl)).setCell ⟨w.heap.size + 1, 1, none⟩ (.slice sa so.length sc) (fun _ => rfl)
        have HY := hide (((unhide D9).set 0 (.int .i64 room) (by simp)).set 1 (.slice sa so.length sc) (by simp))
        have HK := hide ((unhide B9).trans (hT.below (unhide B9).size (fun q hq e => by omega)))
        have FT := hide ((unhide F9).kept hT (fun q hq e => by have := World.ownsRow.lt (unhide F9) q hq; omega))
        obtain ⟨⟨y0, y1⟩, _⟩ := Blk.c2 (unhide O9)
        obtain ⟨⟨d0, d1⟩, g0, g1⟩ := Blk.c2 (unhide D9)
        clear hT F9 B9 D9 O9
        go_wp2_with fail
        obtain ⟨⟨z0, z1⟩, _⟩ := Blk.c2 (unhide HY)
        refine bodyPost_ret (v := .agg #[.int .i64 room, .slice sa so.length sc]) (by simp [results, Tryz.results17, go_sem, z0, z1]) rfl ?_
        exact ⟨sa, sc, rfl, (unhide FT).fls, unhide HK⟩
      · go_simp
        have hb := (Below.refl w1c.heap.size w1c).alloc (Nat.le_refl _) (.cells #[.int .i64 0, .slice none 0 0] 28)
        have OO := hide (Blk.new w1c #[.int .i64 0, .slice none 0 0] 28 w1c.heap.size rfl)
        have hob : w.heap.size + 1 < w1c.heap.size := (unhide DD).1
        have hgob : g < w1c.heap.size := hgl1
        replace BB := hide ((unhide BB).trans (hb.mono (unhide BB).size))
        replace XX := hide ((unhide XX).below hb)
        replace DD := hide ((unhide DD).below hb)
        replace CC := hide ((hb.cell (p := ⟨g, sn - 1, none⟩) hgl1).trans (unhide CC))
        replace hgl1 := Nat.lt_of_lt_of_le hgl1 hb.size
        clear hb
        refine hK.out _ _ ?_ (fun hHeld => ?_)
        · exact ⟨(Blk.c2 (unhide XX)).1.1, (Blk.c2 (unhide XX)).1.2, unhide CC⟩
        clear hK K
        (try simp only [Act.put, List.getElem_toArray, List.getElem_cons_succ, List.getElem_cons_zero, List.setIfInBounds_toArray, List.set_cons_zero, List.set_cons_succ])
        generalize w1c.alloc (.cells #[.int .i64 0, .slice none 0 0] 28) = w4c at *
        generalize w1c.heap.size = ob at *
        refine wpAnyH_ready (rs := [9]) (by kernel_rfl) (by simp) ?_
        refine AllReadyH.cons (o := _) rfl (fun K hK => ?_) AllReadyH.nil
        go_simp
        refine (unhide HST _ (unhide BB)).mono ?_
        rintro e w5c ⟨sa, sc, rfl, hO, hb⟩
        have hDs := (unhide DD).1
        have FF := hide (show OwnF (w.heap.size + 2) w5c (.slice sa so.length sc) so from World.ownsRow.mono hO (by omega))
        have HNE := hide (fun (q : Nat) (hq : (Value.slice sa so.length sc).ownBlock = some q) => (show ¬ q = ob from by have h1 := (World.ownsRow.lt hO q hq).1; have h2 := (unhide OO).1; omega))
        replace BB := hide ((unhide BB).trans (hb.mono (unhide BB).size))
        replace XX := hide ((unhide XX).below hb)
        replace DD := hide ((unhide DD).below hb)
        replace CC := hide ((hb.cell (p := ⟨g, sn - 1, none⟩) hgl1).trans (unhide CC))
        replace hgl1 := Nat.lt_of_lt_of_le hgl1 hb.size
        replace OO := hide ((unhide OO).below hb)
        clear hb hO
        go_wp2_with fail
        refine hK.out _ _ ?_ (fun hHeld => ?_)
        · exact ⟨(Blk.c2 (unhide XX)).1.1, (Blk.c2 (unhide XX)).1.2, unhide CC⟩
        clear hK K
        (try simp only [Act.put, List.getElem_toArray, List.getElem_cons_succ, List.getElem_cons_zero, List.setIfInBounds_toArray, List.set_cons_zero, List.set_cons_succ])
        refine tkH 10 rfl ?_
        refine tkH 11 rfl ?_
        refine tkH 12 rfl ?_
        have hS := ((Touch.refl (fun q => q = ob) w5c).setCell ⟨ob, 0, none⟩ (.int .i64 room) (fun _ => rfl)).setCell ⟨ob, 1, none⟩ (.slice sa so.length sc) (fun _ => rfl)
        have hrw := (unhide BB).size
        have X9 := (unhide XX).kept hS (by omega)
        have D9 := hide ((unhide DD).kept hS (by omega))
        have C9 := (hS.cell (p := ⟨g, sn - 1, none⟩) hgl1 (fun e => by have e2 : g = ob := e; omega)).trans (unhide CC)
        have B9 := hide ((unhide BB).trans (hS.below (unhide BB).size (fun q hq e => by omega)))
        have O9 := hide (((unhide OO).set 0 (.int .i64 room) (by simp)).set 1 (.slice sa so.length sc) (by simp))
        obtain ⟨⟨y0, y1⟩, h0, h1⟩ := Blk.c2 (unhide OO)
        clear BB XX DD OO
        refine wpAnyH_ready (rs := [14]) (by kernel_rfl) (by simp) ?_
        refine AllReadyH.cons (o := _) rfl (fun K hK => ?_) AllReadyH.nil
        go_simp
        refine hK.out _ _ ?_ (fun hHeld => ?_)
        · exact ⟨(Blk.c2 X9).1.1, (Blk.c2 X9).1.2, C9⟩
        clear hK K
        (try simp only [Act.put, List.getElem_toArray, List.getElem_cons_succ, List.getElem_cons_zero, List.setIfInBounds_toArray, List.set_cons_zero, List.set_cons_succ])
        refine tkH 15 rfl ?_
        refine wpAnyH_done (by kernel_rfl) (NoPanic.normal ?_) _
        clear hHeld y0 y1 h0 h1 X9 C9 CC
        have F9 := hide ((unhide FF).kept hS (fun q hq e => by have := unhide HNE q hq; omega))
        generalize (w5c.setCell ⟨ob, 0, none⟩ (.int .i64 room)).setCell ⟨ob, 1, none⟩ (.slice sa so.length sc) = w9 at *
        clear hS FF
        have hT := ((Touch.refl (fun q => q = w.heap.size + 1) w9).setCell ⟨w.heap.size + 1, 0, none⟩ (.int .i64 room) (fun _ => rfl)).setCell ⟨w.heap.size + 1, 1, none⟩ (.slice sa so.length sc) (fun _ => rfl)
        have HY := hide (((unhide D9).set 0 (.int .i64 room) (by simp)).set 1 (.slice sa so.length sc) (by simp))
        have HK := hide ((unhide B9).trans (hT.below (unhide B9).size (fun q hq e => by omega)))
        have FT := hide ((unhide F9).kept hT (fun q hq e => by have := World.ownsRow.lt (unhide F9) q hq; omega))
        obtain ⟨⟨y0, y1⟩, _⟩ := Blk.c2 (unhide O9)
        obtain ⟨⟨d0, d1⟩, g0, g1⟩ := Blk.c2 (unhide D9)
        clear hT F9 B9 D9 O9
        go_wp2_with fail
        obtain ⟨⟨z0, z1⟩, _⟩ := Blk.c2 (unhide HY)
        refine bodyPost_ret (v := .agg #[.int .i64 room, .slice sa so.length sc]) (by simp [results, Tryz.results17, go_sem, z0, z1]) rfl ?_
        exact ⟨sa, sc, rfl, (unhide FT).fls, unhide HK⟩
    · go_simp
      have hb := (Below.refl wd.heap.size wd).alloc (Nat.le_refl _) (.cells #[.int .i64 0, .slice none 0 0] 28)
      have OO := hide (Blk.new wd #[.int .i64 0, .slice none 0 0] 28 wd.heap.size rfl)
      have hob : w.heap.size + 1 < wd.heap.size := (unhide DD).1
      have hgob : g < wd.heap.size := hgl1
      replace BB := hide ((unhide BB).trans (hb.mono (unhide BB).size))
      replace XX := hide ((unhide XX).below hb)
      replace DD := hide ((unhide DD).below hb)
      replace CC := hide ((hb.cell (p := ⟨g, sn - 1, none⟩) hgl1).trans (unhide CC))
      replace hgl1 := Nat.lt_of_lt_of_le hgl1 hb.size
      clear hb
      refine hK.out _ _ ?_ (fun hHeld => ?_)
      · exact ⟨(Blk.c2 (unhide XX)).1.1, (Blk.c2 (unhide XX)).1.2, unhide CC⟩
      clear hK K
      (try simp only [Act.put, List.getElem_toArray, List.getElem_cons_succ, List.getElem_cons_zero, List.setIfInBounds_toArray, List.set_cons_zero, List.set_cons_succ])
      generalize wd.alloc (.cells #[.int .i64 0, .slice none 0 0] 28) = w6c at *
      generalize wd.heap.size = ob at *
      refine wpAnyH_ready (rs := [7]) (by kernel_rfl) (by simp) ?_
      refine AllReadyH.cons (o := _) rfl (fun K hK => ?_) AllReadyH.nil
      go_simp
      refine (unhide HNM _).mono ?_
      rintro e w7c ⟨rfl, hb⟩
      replace BB := hide ((unhide BB).trans (hb.mono (unhide BB).size))
      replace XX := hide ((unhide XX).below hb)
      replace DD := hide ((unhide DD).below hb)
      replace CC := hide ((hb.cell (p := ⟨g, sn - 1, none⟩) hgl1).trans (unhide CC))
      replace hgl1 := Nat.lt_of_lt_of_le hgl1 hb.size
      replace OO := hide ((unhide OO).below hb)
      clear hb
      go_wp2_with fail
      refine hK.out _ _ ?_ (fun hHeld => ?_)
      · exact ⟨(Blk.c2 (unhide XX)).1.1, (Blk.c2 (unhide XX)).1.2, unhide CC⟩
      clear hK K
      (try simp only [Act.put, List.getElem_toArray, List.getElem_cons_succ, List.getElem_cons_zero, List.setIfInBounds_toArray, List.set_cons_zero, List.set_cons_succ])
      refine tkH 8 rfl ?_
      refine wpAnyH_ready (rs := [9]) (by kernel_rfl) (by simp) ?_
      refine AllReadyH.cons (o := _) rfl (fun K hK => ?_) AllReadyH.nil
      go_simp
      refine (unhide HST _ (unhide BB)).mono ?_
      rintro e w8c ⟨sa, sc, rfl, hO, hb⟩
      have hDs := (unhide DD).1
      have FF := hide (show OwnF (w.heap.size + 2) w8c (.slice sa so.length sc) so from World.ownsRow.mono hO (by omega))
      have HNE := hide (fun (q : Nat) (hq : (Value.slice sa so.length sc).ownBlock = some q) => (show ¬ q = ob from by have h1 := (World.ownsRow.lt hO q hq).1; have h2 := (unhide OO).1; omega))
      replace BB := hide ((unhide BB).trans (hb.mono (unhide BB).size))
      replace XX := hide ((unhide XX).below hb)
      replace DD := hide ((unhide DD).below hb)
      replace CC := hide ((hb.cell (p := ⟨g, sn - 1, none⟩) hgl1).trans (unhide CC))
      replace hgl1 := Nat.lt_of_lt_of_le hgl1 hb.size
      replace OO := hide ((unhide OO).below hb)
      clear hb hO
      go_wp2_with fail
      refine hK.out _ _ ?_ (fun hHeld => ?_)
      · exact ⟨(Blk.c2 (unhide XX)).1.1, (Blk.c2 (unhide XX)).1.2, unhide CC⟩
      clear hK K
      (try simp only [Act.put, List.getElem_toArray, List.getElem_cons_succ, List.getElem_cons_zero, List.setIfInBounds_toArray, List.set_cons_zero, List.set_cons_succ])
      refine tkH 10 rfl ?_
      refine tkH 11 rfl ?_
      refine tkH 12 rfl ?_
      have hS := ((Touch.refl (fun q => q = ob) w8c).setCell ⟨ob, 0, none⟩ (.int .i64 room) (fun _ => rfl)).setCell ⟨ob, 1, none⟩ (.slice sa so.length sc) (fun _ => rfl)
      have hrw := (unhide BB).size
      have X9 := (unhide XX).kept hS (by omega)
      have D9 := hide ((unhide DD).kept hS (by omega))
      have C9 := (hS.cell (p := ⟨g, sn - 1, none⟩) hgl1 (fun e => by have e2 : g = ob := e; omega)).trans (unhide CC)
      have B9 := hide ((unhide BB).trans (hS.below (unhide BB).size (fun q hq e => by omega)))
      have O9 := hide (((unhide OO).set 0 (.int .i64 room) (by simp)).set 1 (.slice sa so.length sc) (by simp))
      obtain ⟨⟨y0, y1⟩, h0, h1⟩ := Blk.c2 (unhide OO)
      clear BB XX DD OO
      refine wpAnyH_ready (rs := [14]) (by kernel_rfl) (by simp) ?_
      refine AllReadyH.cons (o := _) rfl (fun K hK => ?_) AllReadyH.nil
      go_simp
      refine hK.out _ _ ?_ (fun hHeld => ?_)
      · exact ⟨(Blk.c2 X9).1.1, (Blk.c2 X9).1.2, C9⟩
      clear hK K
      (try simp only [Act.put, List.getElem_toArray, List.getElem_cons_succ, List.getElem_cons_zero, List.setIfInBounds_toArray, List.set_cons_zero, List.set_cons_succ])
      refine tkH 15 rfl ?_
      refine wpAnyH_done (by kernel_rfl) (NoPanic.normal ?_) _
      clear hHeld y0 y1 h0 h1 X9 C9 CC
      have F9 := hide ((unhide FF).kept hS (fun q hq e => by have := unhide HNE q hq; omega))
      generalize (w8c.setCell ⟨ob, 0, none⟩ (.int .i64 room)).setCell ⟨ob, 1, none⟩ (.slice sa so.length sc) = w9 at *
      clear hS FF
      have hT := ((Touch.refl (fun q => q = w.heap.size + 1) w9).setCell ⟨w.heap.size + 1, 0, none⟩ (.int .i64 room) (fun _ => rfl)).setCell ⟨w.heap.size + 1, 1, none⟩ (.slice sa so.length sc) (fun _ => rfl)
      have HY := hide (((unhide D9).set 0 (.int .i64 room) (by simp)).set 1 (.slice sa so.length sc) (by simp))
      have HK := hide ((unhide B9).trans (hT.below (unhide B9).size (fun q hq e => by omega)))
      have FT := hide ((unhide F9).kept hT (fun q hq e => by have := World.ownsRow.lt (unhide F9) q hq; omega))
      obtain ⟨⟨y0, y1⟩, _⟩ := Blk.c2 (unhide O9)
      obtain ⟨⟨d0, d1⟩, g0, g1⟩ := Blk.c2 (unhide D9)
      clear hT F9 B9 D9 O9
      go_wp2_with fail
      obtain ⟨⟨z0, z1⟩, _⟩ := Blk.c2 (unhide HY)
      refine bodyPost_ret (v := .agg #[.int .i64 room, .slice sa so.length sc]) (by simp [results, Tryz.results17, go_sem, z0, z1]) rfl ?_
      exact ⟨sa, sc, rfl, (unhide FT).fls, unhide HK⟩
/-- What a sync of the log leaves. -/
def wsOut (room : Int) (l : List Fl) : Int × List Fl × Int := if diskB room l = true then (room, syncL l, 0) else (0, [], 1)
def WsE (x : Int × List Fl × Int) (w : World) (e : Ending) (w' : World) : Prop := ∃ a c, e = .returned (.tuple #[.agg #[.int .i64 x.1, .slice a x.2.1.length c], .int .i64 x.2.2]) ∧ OwnF w.heap.size w' (.slice a x.2.1.length c) x.2.1 ∧ Below w.heap.size w w'
theorem wsE_bad {x : Int × List Fl × Int} {w w' : World} {e : Ending} (hx : x = (0, [], 1)) (he : e = .returned (.tuple #[.agg #[.int .i64 0, .slice none 0 0], .int .i64 1])) (hb : Below w.heap.size w w') : WsE x w e w' := by
  subst hx; exact ⟨none, 0, he, World.ownsRow_nil _ _ _ _, hb⟩
theorem disk_len8 {room : Int} {l : List Fl} (h : diskB room l = true) : l.length ≤ 8 := by
  unfold diskB at h
  simp only [Bool.and_eq_true, decide_eq_true_eq] at h
  exact h.1.1.2
theorem syncL_len (l : List Fl) : (syncL l).length = l.length := by
  unfold syncL; split
  · rfl
  · simp
theorem wsOut_len (room : Int) (l : List Fl) : (wsOut room l).2.1.length ≤ l.length := by
  unfold wsOut
  split
  · exact Nat.le_of_eq (syncL_len l)
  · exact Nat.zero_le _
set_option maxRecDepth 100000 in
set_option maxHeartbeats 4000000 in
theorem specWalSync_any (room : Int) (v : Value) (l : List Fl) (w : World) (hL : Fls w v l) (hs : Small l) :
    Calls Tryz.prog 6 #[.agg #[.int .i64 room, v]] w fun e w' => WsE (wsOut room l) w e w' := by
  have HL := hide (fun wx (hx : Below w.heap.size w wx) => hL.below hx)
  obtain ⟨a, cap, rfl, hn, hm, _⟩ := id hL
  have HDK := hide (fun wx (hx : Below w.heap.size w wx) => specDiskOK_any room (.slice a l.length cap) l wx (hL.below hx) hs)
  have B0 := hide (((Below.refl w.heap.size w).alloc (Nat.le_refl _) (.cells #[.int .i64 room, .slice a l.length cap] 28)).alloc (by simp) (.cells #[.int .i64 0, .slice none 0 0] 28))
  have X0 := hide ((Blk.new w #[.int .i64 room, .slice a l.length cap] 28 w.heap.size rfl).alloc (.cells #[.int .i64 0, .slice none 0 0] 28))
  have D0 := hide (Blk.new (w.alloc (.cells #[.int .i64 room, .slice a l.length cap] 28)) #[.int .i64 0, .slice none 0 0] 28 (w.heap.size + 1) (by simp))
  have HW := hide (show wsOut room l = if diskB room l = true then (room, syncL l, 0) else (0, [], 1) from rfl)
  generalize wsOut room l = x at *
  clear hL
  go_enter Tryz.func6, Tryz.ntmps6
  go_upto_region 1 with fail
  generalize (w.alloc (.cells #[.int .i64 room, .slice a l.length cap] 28)).alloc (.cells #[.int .i64 0, .slice none 0 0] 28) = w0 at *
  obtain ⟨⟨x0, x1⟩, _⟩ := Blk.c2 (unhide X0)
  go_wp2_with fail
  refine (unhide HDK _ (unhide B0)).mono ?_
  rintro e w1 ⟨rfl, hb⟩
  have B1 := hide ((unhide B0).trans (hb.mono (unhide B0).size))
  have X1 := hide ((unhide X0).below hb)
  have D1 := hide ((unhide D0).below hb)
  clear HDK hb B0 X0 D0 x0 x1
  obtain ⟨⟨x0, x1⟩, _⟩ := Blk.c2 (unhide X1)
  cases hdk : diskB room l with
  | false =>
    have E := hide ((unhide HW).trans (if_neg (by rw [hdk]; decide)))
    have hT := ((Touch.refl (fun q => q = w.heap.size + 1) w1).setCell ⟨w.heap.size + 1, 0, none⟩ (.int .i64 0) (fun _ => rfl)).setCell ⟨w.heap.size + 1, 1, none⟩ (.slice none 0 0) (fun _ => rfl)
    have HY := hide (((unhide D1).set 0 (.int .i64 0) (by simp)).set 1 (.slice none 0 0) (by simp))
    have HK := hide ((unhide B1).trans (hT.below (unhide B1).size (fun q hq e => by omega)))
    obtain ⟨⟨d0, d1⟩, g0, g1⟩ := Blk.c2 (unhide D1)
    clear hT B1 X1 D1 hdk HW
    go_wp2_with fail
    obtain ⟨⟨z0, z1⟩, _⟩ := Blk.c2 (unhide HY)
    refine bodyPost_ret (v := .tuple #[.agg #[.int .i64 0, .slice none 0 0], .int .i64 1]) (by simp [results, Tryz.results6, go_sem, z0, z1]) rfl ?_
    exact wsE_bad (unhide E) rfl (unhide HK)
  | true =>
    have E := hide ((unhide HW).trans (if_pos hdk))
    have hl8 := disk_len8 hdk
    have HSY := hide (fun wx (hx : Below w.heap.size w wx) => l04Sync_any room (.slice a l.length cap) l wx (unhide HL wx hx) (ris_of_disk hdk) hl8 (fun i hi => (hs.2.2 i).1) (fun f hf => by
      obtain ⟨i, hi, e⟩ := List.getElem_of_mem hf
      have h9 := (hs.2.2 i).2
      rw [List.getD_eq_getElem?_getD, List.getElem?_eq_getElem hi] at h9
      rw [← e]
      unfold maxLen
      have : l[i].d.size ≤ 1048576 := h9
      omega))
    have hsl : (syncL l).length ≤ 1048576 := by rw [syncL_len]; omega
    clear HW hdk hl8
    generalize syncL l = so at *
    go_wp2_with fail
    refine (unhide HSY _ (unhide B1)).mono ?_
    rintro e w2 ⟨sa, sc, rfl, hF, hb⟩
    have HOW := hide (l03Own_any room (.slice sa so.length sc) so w2 hF hsl)
    have B2 := hide ((unhide B1).trans (hb.mono (unhide B1).size))
    have D2 := hide ((unhide D1).below hb)
    clear HSY hF hb B1 X1 D1 x0 x1
    go_wp2_with fail
    refine (unhide HOW).mono ?_
    rintro e w3 ⟨oa, oc, rfl, hO, hb⟩
    have hw2 := (unhide B2).size
    have hD2 := (unhide D2).1
    have B3 := (unhide B2).trans (hb.mono (unhide B2).size)
    have D3 := (unhide D2).below hb
    have hT := ((Touch.refl (fun q => q = w.heap.size + 1) w3).setCell ⟨w.heap.size + 1, 0, none⟩ (.int .i64 room) (fun _ => rfl)).setCell ⟨w.heap.size + 1, 1, none⟩ (.slice oa so.length oc) (fun _ => rfl)
    have HY := hide ((D3.set 0 (.int .i64 room) (by simp)).set 1 (.slice oa so.length oc) (by simp))
    have HK := hide (B3.trans (hT.below B3.size (fun q hq e => by omega)))
    have HO := hide (hO.kept hT (fun q hq e => by have := (World.ownsRow.lt hO q hq).1; omega))
    obtain ⟨⟨d0, d1⟩, g0, g1⟩ := Blk.c2 D3
    clear HOW hO hb B2 D2 B3 D3 hT
    go_wp2_with fail
    obtain ⟨⟨z0, z1⟩, _⟩ := Blk.c2 (unhide HY)
    refine bodyPost_ret (v := .tuple #[.agg #[.int .i64 room, .slice oa so.length oc], .int .i64 0]) (by simp [results, Tryz.results6, go_sem, z0, z1]) rfl ?_
    rw [unhide E]
    exact ⟨oa, oc, rfl, World.ownsRow.mono (unhide HO) hw2, unhide HK⟩
end Go.Proofs.YtfihhkhdigbmiaaGreatDoor
namespace Go.Proofs.YtfihhkhdigbmiaaGreatDoor
open Go.ChangeShapes Go.WideShapes Go.ChangeAt Go.RowKit Go.Maps Go.Sort
set_option linter.unusedVariables false
set_option linter.unusedSimpArgs false

theorem okL_of {room : Int} {l : List Fl} (h : diskB room l = true) (hs : Small l) : OkL l :=
  ⟨ris_of_disk h, disk_len8 h, fun f hf => by
    obtain ⟨i, hi, e⟩ := List.getElem_of_mem hf
    have h9 := hs.2.2 i
    rw [List.getD_eq_getElem?_getD, List.getElem?_eq_getElem hi] at h9
    have h1 : l[i].n.size ≤ 1048576 := h9.1
    have h2 : l[i].d.size ≤ 1048576 := h9.2
    rw [← e]
    unfold maxLen
    omega⟩
theorem Blk.c5z {w : World} {b : Nat} {a0 a1 a2 a3 a4 : Value} (h : Blk w b [a0, a1, a2, a3, a4]) : (w.cell? ⟨b, 0, none⟩ = some a0 ∧ w.cell? ⟨b, 1, none⟩ = some a1 ∧ w.cell? ⟨b, 2, none⟩ = some a2 ∧ w.cell? ⟨b, 3, none⟩ = some a3 ∧ w.cell? ⟨b, 4, none⟩ = some a4) ∧ (w.frozen? ⟨b, 0, none⟩ = false ∧ w.frozen? ⟨b, 1, none⟩ = false ∧ w.frozen? ⟨b, 2, none⟩ = false ∧ w.frozen? ⟨b, 3, none⟩ = false ∧ w.frozen? ⟨b, 4, none⟩ = false) :=
  ⟨⟨h.cell 0 rfl, h.cell 1 rfl, h.cell 2 rfl, h.cell 3 rfl, h.cell 4 rfl⟩, h.fro 0, h.fro 1, h.fro 2, h.fro 3, h.fro 4⟩
set_option maxRecDepth 100000 in
set_option maxHeartbeats 4000000 in
theorem last_any (B : Nat) (gv : Value) (xs : List (Fl × Value)) (w : World) (hG : OwnG B w gv xs) (h0 : 0 < xs.length) (h8 : xs.length ≤ 1048576) :
    Calls Tryz.prog 22 #[.agg #[.int .i64 0, .slice none 0 0, .slice none 0 0, .int .i64 0, gv]] w fun e w' => (∃ (u1 : Int) (da : Option Addr) (dn dc : Nat) (u3 u4 : Int), e = .returned (.agg #[.string (xs.getD (xs.length - 1) default).1.n, .int .i64 u1, .slice da dn dc, .int .i64 u3, .int .i64 u4])) ∧ Below w.heap.size w w' := by
  obtain ⟨a, cap, rfl, hn, hm, hc⟩ := hG.form
  obtain ⟨g, rfl, _, hgl, hcell⟩ := hc (xs.length - 1) (by omega)
  have B0 := hide (((Below.refl w.heap.size w).alloc (Nat.le_refl _) (.cells #[.int .i64 0, .slice none 0 0, .slice none 0 0, .int .i64 0, .slice (some ⟨g, 0, none⟩) xs.length cap] 47)).alloc (by simp) (.cells #[.string ⟨#[]⟩, .int .i64 0, .slice none 0 0, .int .i64 0, .int .i64 0] 50))
  have X0 := hide ((Blk.new w #[.int .i64 0, .slice none 0 0, .slice none 0 0, .int .i64 0, .slice (some ⟨g, 0, none⟩) xs.length cap] 47 w.heap.size rfl).alloc (.cells #[.string ⟨#[]⟩, .int .i64 0, .slice none 0 0, .int .i64 0, .int .i64 0] 50))
  have D0 := hide (Blk.new (w.alloc (.cells #[.int .i64 0, .slice none 0 0, .slice none 0 0, .int .i64 0, .slice (some ⟨g, 0, none⟩) xs.length cap] 47)) #[.string ⟨#[]⟩, .int .i64 0, .slice none 0 0, .int .i64 0, .int .i64 0] 50 (w.heap.size + 1) (by simp))
  obtain ⟨x, hx⟩ : ∃ x, x = xs.getD (xs.length - 1) default := ⟨_, rfl⟩
  rw [← hx] at hcell ⊢
  have s0 := hcell 0 _ rfl
  have s1 := hcell 1 _ rfl
  have s2 := hcell 2 _ rfl
  have s3 := hcell 3 _ rfl
  have s4 := hcell 4 _ rfl
  obtain ⟨da, dn, dc, hfv⟩ : ∃ da dn dc, x.2 = .slice da dn dc := by
    have hxm : x ∈ xs := by
      rw [hx, List.getD_eq_getElem?_getD, List.getElem?_eq_getElem (by omega)]
      exact List.getElem_mem _
    rcases own_shape (hG.2 x hxm) with ⟨h, _⟩ | ⟨g, c, h, _⟩
    · exact ⟨_, _, _, h⟩
    · exact ⟨_, _, _, h⟩
  clear hcell hc hx hG
  generalize xs.length = n at *
  have hwrp : IntKind.i64.wrap ((n - 1 : Nat) : Int) = ((n - 1 : Nat) : Int) := wrapJ _ (by omega) (by omega)
  have hsub : (n : Int) - 1 = ((n - 1 : Nat) : Int) := by omega
  have hgt : decide ((n : Int) > 0) = true := decide_eq_true (by omega)
  have hn0 : (0 : Int) < (n : Int) := by omega
  have hk0 : (0 : Int) ≤ ((n - 1 : Nat) : Int) := by omega
  have hk1 : ((n - 1 : Nat) : Int) < (n : Int) := by omega
  obtain ⟨⟨fn, fd, fs⟩, fv⟩ := x
  generalize (fd.size : Int) = u1 at *
  generalize ((frF ⟨fn, fd, fs⟩).2.1 : Int) = u3 at *
  generalize (frF ⟨fn, fd, fs⟩).2.2 = u4 at *
  dsimp only at s0 s1 s2 s3 s4 hfv
  subst hfv
  have c0 := ((unhide B0).cell (p := ⟨g, (n - 1) * 5 + 0, none⟩) hgl).trans s0
  have c1 := ((unhide B0).cell (p := ⟨g, (n - 1) * 5 + 1, none⟩) hgl).trans s1
  have c2 := ((unhide B0).cell (p := ⟨g, (n - 1) * 5 + 2, none⟩) hgl).trans s2
  have c3 := ((unhide B0).cell (p := ⟨g, (n - 1) * 5 + 3, none⟩) hgl).trans s3
  have c4 := ((unhide B0).cell (p := ⟨g, (n - 1) * 5 + 4, none⟩) hgl).trans s4
  rw [Nat.add_zero] at c0
  clear s0 s1 s2 s3 s4
  go_enter Tryz.func22, Tryz.ntmps22
  go_upto_region 1 with fail
  generalize (w.alloc (.cells #[.int .i64 0, .slice none 0 0, .slice none 0 0, .int .i64 0, .slice (some ⟨g, 0, none⟩) n cap] 47)).alloc (.cells #[.string ⟨#[]⟩, .int .i64 0, .slice none 0 0, .int .i64 0, .int .i64 0] 50) = w0 at *
  obtain ⟨⟨x0, x1, x2, x3, x4⟩, _⟩ := Blk.c5z (unhide X0)
  obtain ⟨⟨d0, d1, d2, d3, d4⟩, g0, g1, g2, g3, g4⟩ := Blk.c5z (unhide D0)
  have hT := (((((Touch.refl (fun q => q = w.heap.size + 1) w0).setCell ⟨w.heap.size + 1, 0, none⟩ (.string fn) (fun _ => rfl)).setCell ⟨w.heap.size + 1, 1, none⟩ (.int .i64 u1) (fun _ => rfl)).setCell ⟨w.heap.size + 1, 2, none⟩ (.slice da dn dc) (fun _ => rfl)).setCell ⟨w.heap.size + 1, 3, none⟩ (.int .i64 u3) (fun _ => rfl)).setCell ⟨w.heap.size + 1, 4, none⟩ (.int .i64 u4) (fun _ => rfl)
  have HY := hide ((((((unhide D0).set 0 (.string fn) (by simp)).set 1 (.int .i64 u1) (by simp)).set 2 (.slice da dn dc) (by simp)).set 3 (.int .i64 u3) (by simp)).set 4 (.int .i64 u4) (by simp))
  have HK := hide ((unhide B0).trans (hT.below (unhide B0).size (fun q hq e => by omega)))
  clear hT B0 X0 D0
  go_wp2_with fail
  obtain ⟨⟨z0, z1, z2, z3, z4⟩, _⟩ := Blk.c5z (unhide HY)
  refine bodyPost_ret (v := .agg #[.string fn, .int .i64 u1, .slice da dn dc, .int .i64 u3, .int .i64 u4]) (by simp [results, Tryz.results22, go_sem, z0, z1, z2, z3, z4]) rfl ?_
  exact ⟨⟨_, _, _, _, _, _, rfl⟩, unhide HK⟩
set_option maxRecDepth 100000 in
set_option maxHeartbeats 8000000 in
theorem implWalSync_any (room : Int) (v : Value) (l : List Fl) (w : World) (hL : Fls w v l) (hs : Small l) :
    Calls Tryz.prog 8 #[.agg #[.int .i64 room, v]] w fun e w' => WsE (wsOut room l) w e w' := by
  have HL := hide (fun wx (hx : Below w.heap.size w wx) => hL.below hx)
  obtain ⟨a, cap, rfl, hn, hm, _⟩ := id hL
  have HDK := hide (fun wx (hx : Below w.heap.size w wx) => implDiskOK_any room (.slice a l.length cap) l wx (hL.below hx) hs)
  have B0 := hide (((Below.refl w.heap.size w).alloc (Nat.le_refl _) (.cells #[.int .i64 room, .slice a l.length cap] 28)).alloc (by simp) (.cells #[.int .i64 0, .slice none 0 0] 28))
  have X0 := hide ((Blk.new w #[.int .i64 room, .slice a l.length cap] 28 w.heap.size rfl).alloc (.cells #[.int .i64 0, .slice none 0 0] 28))
  have D0 := hide (Blk.new (w.alloc (.cells #[.int .i64 room, .slice a l.length cap] 28)) #[.int .i64 0, .slice none 0 0] 28 (w.heap.size + 1) (by simp))
  have HW := hide (show wsOut room l = if diskB room l = true then (room, syncL l, 0) else (0, [], 1) from rfl)
  generalize wsOut room l = x at *
  clear hL
  go_enter Tryz.func8, Tryz.ntmps8
  go_upto_region 1 with fail
  generalize (w.alloc (.cells #[.int .i64 room, .slice a l.length cap] 28)).alloc (.cells #[.int .i64 0, .slice none 0 0] 28) = w0 at *
  obtain ⟨⟨x0, x1⟩, _⟩ := Blk.c2 (unhide X0)
  go_wp2_with fail
  refine (unhide HDK _ (unhide B0)).mono ?_
  rintro e w1 ⟨rfl, hb⟩
  have B1 := hide ((unhide B0).trans (hb.mono (unhide B0).size))
  have X1 := hide ((unhide X0).below hb)
  have D1 := hide ((unhide D0).below hb)
  clear HDK hb B0 X0 D0 x0 x1
  obtain ⟨⟨x0, x1⟩, _⟩ := Blk.c2 (unhide X1)
  cases hdk : diskB room l with
  | false =>
    have E := hide ((unhide HW).trans (if_neg (by rw [hdk]; decide)))
    have hT := ((Touch.refl (fun q => q = w.heap.size + 1) w1).setCell ⟨w.heap.size + 1, 0, none⟩ (.int .i64 0) (fun _ => rfl)).setCell ⟨w.heap.size + 1, 1, none⟩ (.slice none 0 0) (fun _ => rfl)
    have HY := hide (((unhide D1).set 0 (.int .i64 0) (by simp)).set 1 (.slice none 0 0) (by simp))
    have HK := hide ((unhide B1).trans (hT.below (unhide B1).size (fun q hq e => by omega)))
    obtain ⟨⟨d0, d1⟩, g0, g1⟩ := Blk.c2 (unhide D1)
    clear hT B1 X1 D1 hdk HW
    go_wp2_with fail
    obtain ⟨⟨z0, z1⟩, _⟩ := Blk.c2 (unhide HY)
    refine bodyPost_ret (v := .tuple #[.agg #[.int .i64 0, .slice none 0 0], .int .i64 1]) (by simp [results, Tryz.results8, go_sem, z0, z1]) rfl ?_
    exact wsE_bad (unhide E) rfl (unhide HK)
  | true =>
    have E := hide ((unhide HW).trans (if_pos hdk))
    have hok := okL_of hdk hs
    have HSO := hide (fun wx (hx : Below w.heap.size w wx) => segmentsOf_any (.slice a l.length cap) l wx (unhide HL wx hx) hok.len (fun i hi => ⟨(hs.2.2 i).1, file_small hdk i hi⟩))
    have HRA := hide (fun wx av acts (hx : Below w.heap.size w wx) hac hst => runActs_any room l (syncL l) (.slice a l.length cap) av acts wx (unhide HL wx hx) hok hac hst)
    have hrs := hok.ris
    have hl8 := hok.len
    clear HW hdk hok hs
    go_upto_region 3 with fail
    go_wp2_with fail
    refine (unhide HSO _ (unhide B1)).mono ?_
    rintro e w2 ⟨gv, xs, rfl, hxs, hG, hb⟩
    obtain ⟨ga, gc, rfl, hgn, hgm, _⟩ := hG.form
    have hxl : xs.length = (segsP l).length := by rw [← hxs]; simp
    have HXL := hide hxl
    have hx8 : xs.length ≤ 8 := by
      have h1 := List.length_filter_le (fun f : Fl => decide (0 < plcP f.n)) l
      unfold segsP at hxl
      omega
    clear hxl
    have B2 := hide ((unhide B1).trans (hb.mono (unhide B1).size))
    have X2 := hide ((unhide X1).below hb)
    have D2 := hide ((unhide D1).below hb)
    have hAA := (Below.refl w2.heap.size w2).alloc (Nat.le_refl _) (.cells #[.int .i64 0, .slice none 0 0, .slice none 0 0, .int .i64 0, .slice ga xs.length gc] 47)
    have B3 := hide ((unhide B2).trans (hAA.mono (unhide B2).size))
    have X3 := hide ((unhide X2).below hAA)
    have D3 := hide ((unhide D2).below hAA)
    have G3 := hide (hG.below hAA)
    have L3 := hide (Blk.new w2 #[.int .i64 0, .slice none 0 0, .slice none 0 0, .int .i64 0, .slice ga xs.length gc] 47 w2.heap.size rfl)
    have hDw2 := (unhide D2).1
    clear HSO hb hAA B1 X1 D1 B2 X2 D2 x0 x1 hG
    go_upto_region 4 with fail
    generalize w2.alloc (.cells #[.int .i64 0, .slice none 0 0, .slice none 0 0, .int .i64 0, .slice ga xs.length gc] 47) = w3 at *
    generalize w2.heap.size = lb at *
    obtain ⟨⟨x0, x1⟩, _⟩ := Blk.c2 (unhide X3)
    obtain ⟨⟨y0, y1, y2, y3, y4⟩, _⟩ := Blk.c5z (unhide L3)
    by_cases h0 : xs.length = 0
    · have hq : ((xs.length : Int) == 0) = true := beq_iff_eq.2 (by omega)
      have hsy : syncL l = l := if_pos (by have := unhide HXL; omega)
      have HR := hide (unhide HRA w3 (.slice none 0 0) [] (unhide B3) ⟨none, 0, rfl, by unfold maxLen; decide, .inl rfl⟩ (by rw [hsy]; exact Steps.nil l))
      have hsl : (syncL l).length ≤ 8 := by rw [syncL_len]; exact hl8
      clear HRA hsy G3 hxs hrs
      generalize syncL l = so at *
      go_wp2_with fail
      refine (unhide HR).mono ?_
      rintro e w4 ⟨ra, rc, rfl, hO, hb⟩
      have hw3 := (unhide B3).size
      have hD3 := (unhide D3).1
      have B4 := (unhide B3).trans (hb.mono (unhide B3).size)
      have D4 := (unhide D3).below hb
      have hT := ((Touch.refl (fun q => q = w.heap.size + 1) w4).setCell ⟨w.heap.size + 1, 0, none⟩ (.int .i64 room) (fun _ => rfl)).setCell ⟨w.heap.size + 1, 1, none⟩ (.slice ra so.length rc) (fun _ => rfl)
      have HY := hide ((D4.set 0 (.int .i64 room) (by simp)).set 1 (.slice ra so.length rc) (by simp))
      have HK := hide (B4.trans (hT.below B4.size (fun q hq e => by omega)))
      have HO := hide (hO.kept hT (fun q hq e => by have := (World.ownsRow.lt hO q hq).1; omega))
      obtain ⟨⟨d0, d1⟩, g0, g1⟩ := Blk.c2 D4
      clear HR hO hb B3 D3 X3 L3 B4 D4 hT x0 x1 y0 y1 y2 y3 y4
      go_wp2_with fail
      obtain ⟨⟨z0, z1⟩, _⟩ := Blk.c2 (unhide HY)
      refine bodyPost_ret (v := .tuple #[.agg #[.int .i64 room, .slice ra so.length rc], .int .i64 0]) (by simp [results, Tryz.results8, go_sem, z0, z1]) rfl ?_
      rw [unhide E]
      exact ⟨ra, rc, rfl, World.ownsRow.mono (unhide HO) hw3, unhide HK⟩
    · have hq : ((xs.length : Int) == 0) = false := beq_eq_false_iff_ne.2 (by omega)
      obtain ⟨A, B, f, hcut, hlast, hpl, hsy⟩ := seg_last hrs (by have := unhide HXL; omega)
      have hfl : (xs.getD (xs.length - 1) default).1 = f := by
        rw [← hxs] at hlast
        rw [List.length_map, List.getD_eq_getElem?_getD, List.getElem?_map] at hlast
        rw [List.getD_eq_getElem?_getD]
        rw [List.getElem?_eq_getElem (show xs.length - 1 < xs.length by omega)] at hlast ⊢
        exact hlast
      have HLA := hide (fun wx (hx : Below w3.heap.size w3 wx) => last_any _ (.slice ga xs.length gc) xs wx ((unhide G3).below hx) (by omega) (by omega))
      rw [hfl] at HLA
      have HR := hide (fun wx av (hx : Below w.heap.size w wx) hac => unhide HRA wx av [(2, f.n)] hx hac (by rw [hsy, hcut]; exact Steps.sync A B f.n f.d f.s [] _ (Steps.nil _)))
      clear HRA hsy hxs hrs hfl hlast hpl hcut G3
      generalize f.n = fn at *
      generalize syncL l = so at *
      go_upto_region 6 with fail
      have hd1 : Below w3.heap.size w3 w3.drew := below_drewN (Below.refl w3.heap.size w3) 1
      have BQ := hide hd1
      have BB := hide ((unhide B3).trans (hd1.mono (unhide B3).size))
      have XX := hide ((unhide X3).below hd1)
      have DD := hide ((unhide D3).below hd1)
      have LL := hide ((unhide L3).below hd1)
      clear hd1 B3 X3 D3 L3 x0 x1 y0 y1 y2 y3 y4
      obtain ⟨⟨x0, x1⟩, _⟩ := Blk.c2 (unhide XX)
      obtain ⟨⟨y0, y1, y2, y3, y4⟩, _⟩ := Blk.c5z (unhide LL)
      refine wp_region_noPanic ?_
      refine wp_region_held_drew (S := (fun wx => wx.cell? ⟨w.heap.size, 0, none⟩ = some (.int .i64 room) ∧ wx.cell? ⟨w.heap.size, 1, none⟩ = some (.slice a l.length cap) ∧ wx.cell? ⟨lb, 0, none⟩ = some (.int .i64 0) ∧ wx.cell? ⟨lb, 1, none⟩ = some (.slice none 0 0) ∧ wx.cell? ⟨lb, 2, none⟩ = some (.slice none 0 0) ∧ wx.cell? ⟨lb, 3, none⟩ = some (.int .i64 0) ∧ wx.cell? ⟨lb, 4, none⟩ = some (.slice ga xs.length gc))) (by kernel_rfl) ?_ (fun hHeld => ?_)
      · exact ⟨x0, x1, y0, y1, y2, y3, y4⟩
      generalize w3.drew = wd at *
      clear x0 x1 y0 y1 y2 y3 y4
      refine tkH 0 rfl ?_
      refine tkH 1 rfl ?_
      refine wpAnyH_ready (rs := [2]) (by kernel_rfl) (by simp) ?_
      refine AllReadyH.cons (o := _) rfl (fun K hK => ?_) AllReadyH.nil
      go_simp
      refine (unhide HLA _ (unhide BQ)).mono ?_
      rintro e w5 ⟨⟨v1, va, vn, vc, v3, v4, rfl⟩, hb⟩
      replace BB := hide ((unhide BB).trans (hb.mono (unhide BB).size))
      replace XX := hide ((unhide XX).below hb)
      replace DD := hide ((unhide DD).below hb)
      replace LL := hide ((unhide LL).below hb)
      clear hb HLA BQ
      go_wp2_with fail
      refine hK.out _ _ ?_ (fun hHeld => ?_)
      · exact ⟨(Blk.c2 (unhide XX)).1.1, (Blk.c2 (unhide XX)).1.2, (Blk.c5z (unhide LL)).1.1, (Blk.c5z (unhide LL)).1.2.1, (Blk.c5z (unhide LL)).1.2.2.1, (Blk.c5z (unhide LL)).1.2.2.2.1, (Blk.c5z (unhide LL)).1.2.2.2.2⟩
      clear hK K
      (try simp only [Act.put, List.getElem_toArray, List.getElem_cons_succ, List.getElem_cons_zero, List.setIfInBounds_toArray, List.set_cons_zero, List.set_cons_succ])
      have hfld : ∀ wx, (Instr.field 50 (.agg #[.string fn, .int .i64 v1, .slice va vn vc, .int .i64 v3, .int .i64 v4]) 0).run Tryz.prog wx = .ok (.string fn) wx := fun wx => by first | rfl | kernel_rfl | simp [Instr.field, go_sem]
      refine tkH 3 rfl ?_
      refine tkH 4 rfl ?_
      refine wpAnyH_ready (rs := [5]) (by kernel_rfl) (by simp) ?_
      refine AllReadyH.cons (o := _) rfl (fun K hK => ?_) AllReadyH.nil
      go_simp
      have hb := (Below.refl w5.heap.size w5).alloc (Nat.le_refl _) (.cells #[.int .i64 2, .int .i64 0, .string fn, .string ⟨#[]⟩, .string ⟨#[]⟩, .slice none 0 0] 54)
      have hAC := Blk.new w5 #[.int .i64 2, .int .i64 0, .string fn, .string ⟨#[]⟩, .string ⟨#[]⟩, .slice none 0 0] 54 w5.heap.size rfl
      have hAcs : Acts (w5.alloc (.cells #[.int .i64 2, .int .i64 0, .string fn, .string ⟨#[]⟩, .string ⟨#[]⟩, .slice none 0 0] 54)) (.slice (some ⟨w5.heap.size, 0, none⟩) 1 1) [(2, fn)] := ⟨_, _, rfl, (by unfold maxLen; simp), .inr ⟨_, _, rfl, hAC.1, fun i hi => by
        obtain rfl : i = 0 := by simp at hi; omega
        exact Blk.c6 hAC⟩⟩
      replace BB := hide ((unhide BB).trans (hb.mono (unhide BB).size))
      replace XX := hide ((unhide XX).below hb)
      replace DD := hide ((unhide DD).below hb)
      replace LL := hide ((unhide LL).below hb)
      have ACS := hide hAcs
      clear hb hAC hAcs
      refine hK.out _ _ ?_ (fun hHeld => ?_)
      · exact ⟨(Blk.c2 (unhide XX)).1.1, (Blk.c2 (unhide XX)).1.2, (Blk.c5z (unhide LL)).1.1, (Blk.c5z (unhide LL)).1.2.1, (Blk.c5z (unhide LL)).1.2.2.1, (Blk.c5z (unhide LL)).1.2.2.2.1, (Blk.c5z (unhide LL)).1.2.2.2.2⟩
      clear hK K
      (try simp only [Act.put, List.getElem_toArray, List.getElem_cons_succ, List.getElem_cons_zero, List.setIfInBounds_toArray, List.set_cons_zero, List.set_cons_succ])
      generalize w5.alloc (.cells #[.int .i64 2, .int .i64 0, .string fn, .string ⟨#[]⟩, .string ⟨#[]⟩, .slice none 0 0] 54) = w6 at *
      generalize w5.heap.size = ab at *
      refine wpAnyH_ready (rs := [6]) (by kernel_rfl) (by simp) ?_
      refine AllReadyH.cons (o := _) rfl (fun K hK => ?_) AllReadyH.nil
      go_simp
      refine (unhide HR _ _ (unhide BB) (unhide ACS)).mono ?_
      rintro e w7 ⟨ra, rc, rfl, hO, hb⟩
      have hw6 := (unhide BB).size
      have hD6 := (unhide DD).1
      replace BB := hide ((unhide BB).trans (hb.mono (unhide BB).size))
      replace XX := hide ((unhide XX).below hb)
      replace DD := hide ((unhide DD).below hb)
      replace LL := hide ((unhide LL).below hb)
      have RO := hide hO
      clear hb hO HR ACS
      go_wp2_with fail
      refine hK.out _ _ ?_ (fun hHeld => ?_)
      · exact ⟨(Blk.c2 (unhide XX)).1.1, (Blk.c2 (unhide XX)).1.2, (Blk.c5z (unhide LL)).1.1, (Blk.c5z (unhide LL)).1.2.1, (Blk.c5z (unhide LL)).1.2.2.1, (Blk.c5z (unhide LL)).1.2.2.2.1, (Blk.c5z (unhide LL)).1.2.2.2.2⟩
      clear hK K
      (try simp only [Act.put, List.getElem_toArray, List.getElem_cons_succ, List.getElem_cons_zero, List.setIfInBounds_toArray, List.set_cons_zero, List.set_cons_succ])
      refine tkH 7 rfl ?_
      refine tkH 8 rfl ?_
      have hT := ((Touch.refl (fun q => q = w.heap.size + 1) w7).setCell ⟨w.heap.size + 1, 0, none⟩ (.int .i64 room) (fun _ => rfl)).setCell ⟨w.heap.size + 1, 1, none⟩ (.slice ra so.length rc) (fun _ => rfl)
      have HY := hide (((unhide DD).set 0 (.int .i64 room) (by simp)).set 1 (.slice ra so.length rc) (by simp))
      have HK := hide ((unhide BB).trans (hT.below (unhide BB).size (fun q hq e => by omega)))
      have HO := hide ((unhide RO).kept hT (fun q hq e => by have := (World.ownsRow.lt (unhide RO) q hq).1; omega))
      have XK := (unhide XX).kept hT (by omega)
      have LK := (unhide LL).kept hT (by omega)
      obtain ⟨⟨d0, d1⟩, g0, g1⟩ := Blk.c2 (unhide DD)
      clear BB XX DD LL RO hT
      refine wpAnyH_ready (rs := [9]) (by kernel_rfl) (by simp) ?_
      refine AllReadyH.cons (o := _) rfl (fun K hK => ?_) AllReadyH.nil
      go_simp
      refine hK.out _ _ ?_ (fun hHeld => ?_)
      · exact ⟨(Blk.c2 XK).1.1, (Blk.c2 XK).1.2, (Blk.c5z LK).1.1, (Blk.c5z LK).1.2.1, (Blk.c5z LK).1.2.2.1, (Blk.c5z LK).1.2.2.2.1, (Blk.c5z LK).1.2.2.2.2⟩
      clear hK K
      (try simp only [Act.put, List.getElem_toArray, List.getElem_cons_succ, List.getElem_cons_zero, List.setIfInBounds_toArray, List.set_cons_zero, List.set_cons_succ])
      refine tkH 10 rfl ?_
      refine wpAnyH_done (by kernel_rfl) (NoPanic.normal ?_) _
      clear d0 d1 g0 g1 hHeld XK LK
      go_wp2_with fail
      obtain ⟨⟨z0, z1⟩, _⟩ := Blk.c2 (unhide HY)
      refine bodyPost_ret (v := .tuple #[.agg #[.int .i64 room, .slice ra so.length rc], .int .i64 0]) (by simp [results, Tryz.results8, go_sem, z0, z1]) rfl ?_
      rw [unhide E]
      exact ⟨ra, rc, rfl, World.ownsRow.mono (unhide HO) hw6, unhide HK⟩
end Go.Proofs.YtfihhkhdigbmiaaGreatDoor
namespace Go.Proofs.YtfihhkhdigbmiaaGreatDoor
open Go.ChangeShapes Go.WideShapes Go.ChangeAt Go.RowKit Go.Maps Go.Sort
set_option linter.unusedVariables false
set_option linter.unusedSimpArgs false

def actC (x : Int × ByteArray) : List Value := [.int .i64 x.1, .int .i64 0, .string x.2, .string ⟨#[]⟩, .string ⟨#[]⟩, .slice none 0 0]
/-- Acts in a slice of the call's own. -/
def OwnA (B : Nat) (w : World) (v : Value) (l : List (Int × ByteArray)) : Prop := w.ownsRow B 54 6 v l.length (l.flatMap actC)
theorem OwnA.below {B : Nat} {w w' : World} {v : Value} {l : List (Int × ByteArray)} (h : OwnA B w v l) (hb : Below w.heap.size w w') : OwnA B w' v l := own_kept (T := fun _ => False) h (Touch.ofBelow hb) (fun _ _ h => h)
theorem actC_get : ∀ (xs : List (Int × ByteArray)) (k j : Nat), k < xs.length → j < 6 → (xs.flatMap actC)[k * 6 + j]? = (actC (xs.getD k default))[j]?
  | [], k, j, h, _ => by simp at h
  | x :: xs, 0, j, _, hj => by
    rw [List.flatMap_cons, List.getElem?_append_left (by simp [actC]; omega)]; simp
  | x :: xs, k + 1, j, h, hj => by
    have e : (k + 1) * 6 + j = 6 + (k * 6 + j) := by omega
    rw [List.flatMap_cons, List.getElem?_append_right (by simp [actC]; omega), e]
    have := actC_get xs k j (by simpa using h) hj
    simpa [actC] using this
theorem OwnA.acts {B : Nat} {w : World} {v : Value} {l : List (Int × ByteArray)} (h : OwnA B w v l) (hl : l.length ≤ maxLen) : Acts w v l := by
  rcases own_shape h with ⟨rfl, h0⟩ | ⟨g, cap, rfl, hb, hlt, hn, hm⟩
  · exact ⟨none, 0, by rw [h0], hl, .inl h0⟩
  · refine ⟨_, _, rfl, hl, .inr ⟨g, 0, rfl, hlt, fun i hi => ?_⟩⟩
    have hc : ∀ j u, (actC (l.getD i default))[j]? = some u → w.cell? ⟨g, 0 + i * 6 + j, none⟩ = some u := fun j u hu => by
      have hj : j < 6 := by
        rcases Nat.lt_or_ge j 6 with h | h
        · exact h
        · rw [List.getElem?_eq_none (by simpa [actC] using h)] at hu; cases hu
      have := actC_get l i j hi hj
      rw [hu] at this
      rw [Nat.zero_add, h.cellAt (i * 6 + j) (by omega)]
      exact this
    exact ⟨hc 0 _ rfl, hc 1 _ rfl, hc 2 _ rfl, hc 3 _ rfl, hc 4 _ rfl, hc 5 _ rfl⟩
theorem infoAct : (Tryz.prog.info? 54).map (fun i => (i.zero, i.size, i.bytes)) = some (some (.agg #[.int .i64 0, .int .i64 0, .string ⟨#[]⟩, .string ⟨#[]⟩, .string ⟨#[]⟩, .slice none 0 0]), 6, 88) := by kernel_rfl
theorem str0 {d : List Int} (h : d.length = 4) : (strOfNums d).size = 4 := by
  unfold strOfNums
  simp [h, ByteArray.size]
/-- What a segment says of itself: whether it has a number ahead, and which. -/
theorem seg_says (f : Fl) (below : Int) (h : (frF f).1 = [] ∨ ((frF f).1.getD 0 []).length = 4) :
    (((frF f).1.map strOfNums).getD 0 ByteArray.empty).size ≤ 1048576 ∧
    (((frF f).1 = [] ∧ hdB ((frF f).1.map strOfNums) = false) ∨ ((frF f).1 ≠ [] ∧ hdB ((frF f).1.map strOfNums) = true ∧ 0 < ((frF f).1.map strOfNums).length ∧ (numP 4 (some (bytesI (((frF f).1.map strOfNums).getD 0 ByteArray.empty)))).1 = dec ((frF f).1.getD 0 []))) := by
  have hr := frF_range f 0
  generalize (frF f).1 = ds at *
  cases ds with
  | nil => exact ⟨by simp, .inl ⟨rfl, by simp [hdB]⟩⟩
  | cons d ds =>
    have h4 : d.length = 4 := by
      rcases h with h | h
      · cases h
      · simpa using h
    have hs := str0 h4
    refine ⟨by simp [hs], .inr ⟨by simp, by simp [hdB, hs], by simp, ?_⟩⟩
    simpa using (head_num (d := d) (by simpa using hr) h4).1
set_option maxRecDepth 100000 in
set_option maxHeartbeats 4000000 in
theorem drops_any (B : Nat) (first torn below : Int) (rv nv gv : Value) (xs : List (Fl × Value)) (w : World) (hG : OwnG B w gv xs) (h8 : xs.length ≤ 8)
    (hrv : ∃ a n c, rv = .slice a n c) (hnv : ∃ a n c, nv = .slice a n c) (hs : ∀ x ∈ xs, x.1.d.size ≤ 3000) (hh : ∀ x ∈ xs, (frF x.1).1 = [] ∨ ((frF x.1).1.getD 0 []).length = 4) :
    Calls Tryz.prog 29 #[.agg #[.int .i64 first, rv, nv, .int .i64 torn, gv], .int .i64 below] w fun e w' => ∃ av, e = .returned av ∧ Acts w' av (fgA (xs.map Prod.fst) (fgN (xs.map Prod.fst) below 0)) ∧ Below w.heap.size w w' := by
  obtain ⟨ra, rn, rc, rfl⟩ := hrv
  obtain ⟨na, nn, nc, rfl⟩ := hnv
  obtain ⟨i0, hi, hz0, hz1, hz2⟩ := info_parts infoAct
  obtain ⟨ga, gc, rfl, hn, hm, hcs⟩ := hG.form
  have HC := hide hcs
  have HO := hide (fun (j : Nat) (hj : j < xs.length) => (show OwnS B w (xs.getD j default).2 ((frF (xs.getD j default).1).1.map strOfNums) ∧ (xs.getD j default).1.d.size ≤ 3000 ∧ ((frF (xs.getD j default).1).1 = [] ∨ ((frF (xs.getD j default).1).1.getD 0 []).length = 4) from by
    have hx : xs.getD j default ∈ xs := by rw [List.getD_eq_getElem?_getD, List.getElem?_eq_getElem hj]; exact List.getElem_mem _
    exact ⟨hG.2 _ hx, hs _ hx, hh _ hx⟩))
  have HSG := hide (fun (j : Nat) (hj : j < xs.length) => (show (xs.map Prod.fst).getD j default = (xs.getD j default).1 from by
    rw [List.getD_eq_getElem?_getD, List.getElem?_map, List.getElem?_eq_getElem hj, List.getD_eq_getElem?_getD, List.getElem?_eq_getElem hj]; rfl))
  have HSL := hide (show (xs.map Prod.fst).length = xs.length from List.length_map ..)
  have B0 := hide ((Below.refl w.heap.size w).alloc (Nat.le_refl _) (.cells #[.int .i64 first, .slice ra rn rc, .slice na nn nc, .int .i64 torn, .slice ga xs.length gc] 47))
  have X0 := hide (Blk.new w #[.int .i64 first, .slice ra rn rc, .slice na nn nc, .int .i64 torn, .slice ga xs.length gc] 47 w.heap.size rfl)
  clear hcs hG hs hh
  generalize xs.map Prod.fst = sg at *
  go_enter Tryz.func29, Tryz.ntmps29
  go_wp2_with fail
  generalize w.alloc (.cells #[.int .i64 first, .slice ra rn rc, .slice na nn nc, .int .i64 torn, .slice ga xs.length gc] 47) = w0 at *
  have x4 := (unhide X0).cell 4 rfl
  go_step3
  go_wp2_with fail
  go_step3
  go_wp2_with fail
  clear x4
  go_loopw [5, 12] (fun av i wr => ∃ k : Nat, k ≤ xs.length ∧ i = .int .i64 k ∧ OwnA (w.heap.size + 1) wr av (fgA sg k) ∧ fgN sg below 0 = fgN sg below k ∧ Blk wr w.heap.size [.int .i64 first, .slice ra rn rc, .slice na nn nc, .int .i64 torn, .slice ga xs.length gc] ∧ Below w.heap.size w wr) (fun _ i _ => xs.length - (intOf i).toNat)
  case atStart => exact ⟨0, Nat.zero_le _, rfl, World.ownsRow_nil _ _ _ _, rfl, unhide X0, unhide B0⟩
  case round =>
    obtain ⟨k, hk, rfl, hA, hN, hX, hb⟩ := hrel
    have HA := hide hA
    have HN := hide hN
    have HX := hide hX
    have HB := hide hb
    have hAl : (fgA sg k).length = k := fgA_len sg k (by rw [unhide HSL]; exact hk)
    have HAL := hide hAl
    clear hA hN hX hb hAl
    by_cases hlt : k < xs.length
    · obtain ⟨g, rfl, _, hgl, hcell⟩ := unhide HC k hlt
      obtain ⟨x, hx⟩ : ∃ x, x = xs.getD k default := ⟨_, rfl⟩
      have hox := (unhide HO k hlt).1
      have hsk := unhide HSG k hlt
      rw [← hx] at hcell hox hsk
      obtain ⟨⟨fn, fd, fs⟩, fv⟩ := x
      obtain ⟨da, dn, dc, hfv⟩ : ∃ da dn dc, fv = .slice da dn dc := by
        rcases own_shape hox with ⟨h, _⟩ | ⟨g, c, h, _⟩
        · exact ⟨_, _, _, h⟩
        · exact ⟨_, _, _, h⟩
      subst hfv
      have c0 := ((unhide HB).cell (p := ⟨g, k * 5 + 0, none⟩) hgl).trans (hcell 0 _ rfl)
      have c1 := ((unhide HB).cell (p := ⟨g, k * 5 + 1, none⟩) hgl).trans (hcell 1 _ rfl)
      have c2 := ((unhide HB).cell (p := ⟨g, k * 5 + 2, none⟩) hgl).trans (hcell 2 _ rfl)
      have c3 := ((unhide HB).cell (p := ⟨g, k * 5 + 3, none⟩) hgl).trans (hcell 3 _ rfl)
      have c4 := ((unhide HB).cell (p := ⟨g, k * 5 + 4, none⟩) hgl).trans (hcell 4 _ rfl)
      rw [Nat.add_zero] at c0
      have hk0 : (0 : Int) ≤ (k : Int) := by omega
      have hk1 : (k : Int) < (xs.length : Int) := by omega
      have hwrp : IntKind.i64.wrap ((k : Int) + 1) = (k : Int) + 1 := wrapJ _ (by omega) (by omega)
      have hnx : (sg.getD k default).n = fn := by rw [hsk]
      have HNX := hide hnx
      clear hcell hox hsk hx hnx
      generalize (fd.size : Int) = z1 at *
      generalize ((frF ⟨fn, fd, fs⟩).2.1 : Int) = z3 at *
      generalize (frF ⟨fn, fd, fs⟩).2.2 = z4 at *
      have hAA := (Below.refl wr.heap.size wr).alloc (Nat.le_refl _) (.cells #[.string fn, .int .i64 z1, .slice da dn dc, .int .i64 z3, .int .i64 z4] 50)
      have B1 := hide ((unhide HB).trans (hAA.mono (unhide HB).size))
      have X1 := hide ((unhide HX).below hAA)
      have A1 := hide ((unhide HA).below hAA)
      have S1 := hide (Blk.new wr #[.string fn, .int .i64 z1, .slice da dn dc, .int .i64 z3, .int .i64 z4] 50 wr.heap.size rfl)
      clear hAA HB HX HA
      go_upto_region 5 with fail
      clear c0 c1 c2 c3 c4
      generalize wr.alloc (.cells #[.string fn, .int .i64 z1, .slice da dn dc, .int .i64 z3, .int .i64 z4] 50) = w1 at *
      generalize wr.heap.size = fb at *
      have x4 := (unhide X1).cell 4 rfl
      by_cases hlast : k + 1 < xs.length
      · have hq : ((k : Int) + 1 == (xs.length : Int)) = false := beq_eq_false_iff_ne.2 (by omega)
        obtain ⟨g2, hg2, _, _, hcell⟩ := unhide HC (k + 1) hlast
        obtain rfl : g = g2 := by cases hg2; rfl
        obtain ⟨x, hx⟩ : ∃ x, x = xs.getD (k + 1) default := ⟨_, rfl⟩
        obtain ⟨hox, hsz, hhd⟩ := unhide HO (k + 1) hlast
        have hsk := unhide HSG (k + 1) hlast
        rw [← hx] at hcell hox hsk hsz hhd
        obtain ⟨⟨fn2, fd2, fs2⟩, fv2⟩ := x
        dsimp only at hsz hhd hox hsk
        have hsy := seg_says ⟨fn2, fd2, fs2⟩ below hhd
        have hfl : ((frF ⟨fn2, fd2, fs2⟩).1.map strOfNums).length ≤ 1048576 := by
          have := frF_len ⟨fn2, fd2, fs2⟩
          rw [List.length_map]
          exact Nat.le_trans this (by show fd2.size ≤ 1048576; omega)
        obtain ⟨ea, en, ec, hfv⟩ : ∃ da dn dc, fv2 = .slice da dn dc := by
          rcases own_shape hox with ⟨h, _⟩ | ⟨g, c, h, _⟩
          · exact ⟨_, _, _, h⟩
          · exact ⟨_, _, _, h⟩
        subst hfv
        have c0 := ((unhide B1).cell (p := ⟨g, (k + 1) * 5 + 0, none⟩) hgl).trans (hcell 0 _ rfl)
        have c1 := ((unhide B1).cell (p := ⟨g, (k + 1) * 5 + 1, none⟩) hgl).trans (hcell 1 _ rfl)
        have c2 := ((unhide B1).cell (p := ⟨g, (k + 1) * 5 + 2, none⟩) hgl).trans (hcell 2 _ rfl)
        have c3 := ((unhide B1).cell (p := ⟨g, (k + 1) * 5 + 3, none⟩) hgl).trans (hcell 3 _ rfl)
        have c4 := ((unhide B1).cell (p := ⟨g, (k + 1) * 5 + 4, none⟩) hgl).trans (hcell 4 _ rfl)
        rw [Nat.add_zero] at c0
        have hFG : Hid (fgB sg below k ↔ (frF ⟨fn2, fd2, fs2⟩).1 ≠ [] ∧ dec ((frF ⟨fn2, fd2, fs2⟩).1.getD 0 []) ≤ below) := hide (by unfold fgB; rw [hsk])
        have HOX := hide hox
        have HSY := hide hsy
        have HCL := hide (And.intro (hcell 0 _ rfl) (And.intro (hcell 1 _ rfl) (And.intro (hcell 2 _ rfl) (And.intro (hcell 3 _ rfl) (hcell 4 _ rfl)))))
        rw [Nat.add_zero] at HCL
        clear hcell hsk hx hhd hox hsy hsz hg2
        generalize (fd2.size : Int) = y1 at *
        generalize ((frF ⟨fn2, fd2, fs2⟩).2.1 : Int) = y3 at *
        generalize (frF ⟨fn2, fd2, fs2⟩).2.2 = y4 at *
        generalize (frF ⟨fn2, fd2, fs2⟩).1 = ds at *
        have hm0 : (0 : Int) ≤ (k : Int) + 1 := by omega
        have hm1 : (k : Int) + 1 < (xs.length : Int) := by omega
        go_upto_region 7 with fail
        go_wp2_with fail
        refine (headed_any fn2 y1 (.slice ea en ec) y3 y4 (ds.map strOfNums) B w1 ((unhide HOX).below (unhide B1)) hfl (unhide HSY).1).mono ?_
        rintro e w2 ⟨rfl, hb2⟩
        have B2 := hide ((unhide B1).trans (hb2.mono (unhide B1).size))
        have X2 := hide ((unhide X1).below hb2)
        have A2 := hide ((unhide A1).below hb2)
        have S2 := hide ((unhide S1).below hb2)
        clear hb2 B1 X1 A1 S1 c0 c1 c2 c3 c4 x4
        rcases (unhide HSY).2 with ⟨hd0, hhb⟩ | ⟨hd0, hhb, hpos, hnum⟩
        · rw [hhb]
          have HE : Hid (fgN sg below k = k) := hide (fgN_stop (fun hx => ((unhide hFG).1 hx).1 hd0))
          clear hd0 hhb HSY hfl hFG
          go_wp2_with fail
          rw [Exit.noGoto_ret]
          go_ret
          refine ⟨_, rfl, ?_, unhide B2⟩
          rw [unhide HN, unhide HE]
          exact OwnA.acts (unhide A2) (by rw [unhide HAL]; unfold maxLen; omega)
        · rw [hhb]
          have x4 := (unhide X2).cell 4 rfl
          have c0 := ((unhide B2).cell (p := ⟨g, (k + 1) * 5, none⟩) hgl).trans (unhide HCL).1
          have c1 := ((unhide B2).cell (p := ⟨g, (k + 1) * 5 + 1, none⟩) hgl).trans (unhide HCL).2.1
          have c2 := ((unhide B2).cell (p := ⟨g, (k + 1) * 5 + 2, none⟩) hgl).trans (unhide HCL).2.2.1
          have c3 := ((unhide B2).cell (p := ⟨g, (k + 1) * 5 + 3, none⟩) hgl).trans (unhide HCL).2.2.2.1
          have c4 := ((unhide B2).cell (p := ⟨g, (k + 1) * 5 + 4, none⟩) hgl).trans (unhide HCL).2.2.2.2
          have HNS := hide (number_seg fn2 y1 (.slice ea en ec) y3 y4 (ds.map strOfNums) B w2 ((unhide HOX).below (unhide B2)) hpos (unhide HSY).1 hfl)
          rw [hnum] at HNS
          have HGO : Hid (dec (ds.getD 0 []) ≤ below → fgN sg below k = fgN sg below (k + 1)) := hide (fun hle => fgN_go (by rw [unhide HSL]; exact hlast) ((unhide hFG).2 ⟨hd0, hle⟩))
          have HST : Hid (dec (ds.getD 0 []) > below → fgN sg below k = k) := hide (fun hle => fgN_stop (fun hx => absurd ((unhide hFG).1 hx).2 (by omega)))
          clear hd0 hhb hpos hnum HSY hfl hFG
          generalize dec (ds.getD 0 []) = nb at *
          go_upto_region 8 with fail
          go_wp2_with fail
          refine (unhide HNS).mono ?_
          rintro e w3 ⟨rfl, hb3⟩
          have B3 := hide ((unhide B2).trans (hb3.mono (unhide B2).size))
          have X3 := hide ((unhide X2).below hb3)
          have A3 := hide ((unhide A2).below hb3)
          have S3 := hide ((unhide S2).below hb3)
          clear hb3 B2 X2 A2 S2 c0 c1 c2 c3 c4 x4 HNS
          by_cases hbel : nb ≤ below
          · have HGE := hide (unhide HGO hbel)
            have hng : ¬ nb > below := by omega
            have s0 := (unhide S3).cell 0 rfl
            have hbs3 := (unhide B3).size
            have A4 : Hid (w3.ownsRow (w.heap.size + 1) 54 6 u5 k ((fgA sg k).flatMap actC)) := hide (by have h := unhide A3; unfold OwnA at h; rwa [unhide HAL] at h)
            have NE : Hid (u5.ownBlock ≠ some w.heap.size) := hide (fun e => by have := (World.ownsRow.lt (unhide A4) _ e).1; omega)
            clear A3 HGO HST hbel
            go_wp2_with (at_builtin; refine wpList_append_lies _ rfl _ _ _ rfl (w.heap.size + 1) 54 i0 _ 6 88 Tryz.underlying55 hi hz0 hz1 hz2 rfl (by omega) u5 k _ rfl (World.ownsRow.alloc (unhide A4) _) ⟨w3.heap.size, 0, none⟩ 1 1 [_, _, _, _, _, _] rfl rfl (World.news_of_block (cs := #[_, _, _, _, _, _]) (t := 54) (fr := (0, 0)) (heap_alloc_new w3 _)) (by simp [Value.oneCell']) (by omega) (by unfold maxLen; omega) (by omega) (by simp; omega) _ rfl ?_; intro g5 cap5 w5 hown5 hgrow5 hat5 hlt5; have R5 := hide (And.intro hown5 (And.intro (((unhide B3).alloc hbs3 _).grown hgrow5 (by simp; omega) (fun r hr => Nat.le_of_succ_le (World.ownsRow.lt (unhide A4) r hr).1)) hgrow5)); clear hown5 hgrow5 hat5 hlt5)
            refine ⟨⟨k + 1, by omega, by go_num, ?_, (unhide HN).trans (unhide HGE), ?_, (unhide R5).2.1⟩, ?_⟩
            · have h5 := (unhide R5).1
              unfold OwnA
              rw [fgA_next sg k (by rw [unhide HSL]; exact hlt), unhide HNX, List.length_append, unhide HAL, List.flatMap_append]
              exact h5
            · exact ((unhide X3).alloc _).kept (T := fun j => u5.ownBlock = some j) ⟨(unhide R5).2.2.os, (unhide R5).2.2.tape, (unhide R5).2.2.output, (unhide R5).2.2.size, fun j hj hne => (unhide R5).2.2.block j hj (fun e => hne e.symm)⟩ (fun e => unhide NE e)
            · simp [intOf]; omega
          · have hng : nb > below := by omega
            have HE := hide (unhide HST hng)
            clear HGO HST hbel
            go_wp2_with fail
            rw [Exit.noGoto_ret]
            go_ret
            refine ⟨_, rfl, ?_, unhide B3⟩
            rw [unhide HN, unhide HE]
            exact OwnA.acts (unhide A3) (by rw [unhide HAL]; unfold maxLen; omega)
      · have hq : ((k : Int) + 1 == (xs.length : Int)) = true := beq_iff_eq.2 (by omega)
        have HE := hide (fgN_end (sg := sg) (below := below) (i := k) (by rw [unhide HSL]; exact hlast))
        go_wp2_with fail
        go_ret
        refine ⟨_, rfl, ?_, unhide B1⟩
        rw [unhide HN, unhide HE]
        exact OwnA.acts (unhide A1) (by rw [unhide HAL]; unfold maxLen; omega)
    · have HE := hide (fgN_end (sg := sg) (below := below) (i := k) (by rw [unhide HSL]; omega))
      go_wp2_with fail
      (try rw [Exit.noGoto_ret])
      go_ret
      refine ⟨_, rfl, ?_, unhide HB⟩
      rw [unhide HN, unhide HE]
      exact OwnA.acts (unhide HA) (by rw [unhide HAL]; unfold maxLen; omega)
end Go.Proofs.YtfihhkhdigbmiaaGreatDoor
namespace Go.Proofs.YtfihhkhdigbmiaaGreatDoor
open Go.ChangeShapes Go.WideShapes Go.ChangeAt Go.RowKit Go.Maps Go.Sort
set_option linter.unusedVariables false
set_option linter.unusedSimpArgs false

theorem wsE_none {x : Int × List Fl × Int} {cd : Int} {w w' : World} {e : Ending} (hx : x = (0, [], cd)) (he : e = .returned (.tuple #[.agg #[.int .i64 0, .slice none 0 0], .int .i64 cd])) (hb : Below w.heap.size w w') : WsE x w e w' := by
  subst hx; exact ⟨none, 0, he, World.ownsRow_nil _ _ _ _, hb⟩
theorem wf_facts {room below : Int} {l : List Fl} (hs : Small l) (h : (walOut room l).2 = 0) : OkL l ∧ Steps l (fgA (segsP l) (fgN (segsP l) below 0)) (dropL (fgN (segsP l) below 0) l) ∧
    ∀ xs : List (Fl × Value), xs.map Prod.fst = segsP l → xs.length ≤ 8 ∧ ∀ x ∈ xs, x.1.d.size ≤ 3000 ∧ ((frF x.1).1 = [] ∨ ((frF x.1).1.getD 0 []).length = 4) := by
  obtain ⟨hd, hh⟩ := wal_ok h
  have hok := okL_of hd hs
  refine ⟨hok, fg_steps0 l _ (fgN_le _ _ _ 0 rfl (Nat.zero_le _)), fun xs hx => ⟨?_, fun x hm => ?_⟩⟩
  · have h1 := congrArg List.length hx
    rw [List.length_map] at h1
    rw [h1]
    exact segs_len l hok.len
  · have h1 : x.1 ∈ segsP l := by rw [← hx]; exact List.mem_map.2 ⟨x, hm, rfl⟩
    obtain ⟨i, hi, e⟩ := List.getElem_of_mem h1
    have h2 := hh i hi
    rw [List.getD_eq_getElem?_getD, List.getElem?_eq_getElem hi, Option.getD_some, e] at h2
    exact ⟨seg_small hd _ (List.mem_filter.1 h1).1, h2⟩
set_option maxRecDepth 100000 in
set_option maxHeartbeats 8000000 in
theorem implWalForget_any (room below : Int) (v : Value) (l : List Fl) (w : World) (hL : Fls w v l) (hs : Small l) :
    Calls Tryz.prog 13 #[.agg #[.int .i64 room, v], .int .i64 below] w fun e w' => WsE (wfOut room l below) w e w' := by
  have HL := hide (fun wx (hx : Below w.heap.size w wx) => hL.below hx)
  obtain ⟨a, cap, rfl, hn, hm, _⟩ := id hL
  have HRL := hide (fun wx (hx : Below w.heap.size w wx) => readLogS_any room (.slice a l.length cap) l wx (hL.below hx) hs)
  have HFA := hide (fun (h : (walOut room l).2 = 0) => wf_facts (below := below) hs h)
  have B0 := hide (((Below.refl w.heap.size w).alloc (Nat.le_refl _) (.cells #[.int .i64 room, .slice a l.length cap] 28)).alloc (by simp) (.cells #[.int .i64 0, .slice none 0 0] 28))
  have X0 := hide ((Blk.new w #[.int .i64 room, .slice a l.length cap] 28 w.heap.size rfl).alloc (.cells #[.int .i64 0, .slice none 0 0] 28))
  have D0 := hide (Blk.new (w.alloc (.cells #[.int .i64 room, .slice a l.length cap] 28)) #[.int .i64 0, .slice none 0 0] 28 (w.heap.size + 1) (by simp))
  have HW := hide (show wfOut room l below = if (walOut room l).2 = 0 then (if below < 0 then (0, [], 4) else (room, dropL (fgN (segsP l) below 0) l, 0)) else (0, [], (walOut room l).2) from rfl)
  generalize wfOut room l below = x at *
  clear hL hs
  go_enter Tryz.func13, Tryz.ntmps13
  go_upto_region 1 with fail
  generalize (w.alloc (.cells #[.int .i64 room, .slice a l.length cap] 28)).alloc (.cells #[.int .i64 0, .slice none 0 0] 28) = w0 at *
  obtain ⟨⟨x0, x1⟩, _⟩ := Blk.c2 (unhide X0)
  go_wp2_with fail
  refine (unhide HRL _ (unhide B0)).mono ?_
  rintro e w1 ⟨rv, nv, ga, gn, gc, rfl, hA, hb, hsg⟩
  obtain ⟨⟨ra, rc, hra⟩, ⟨na, nc, hna⟩⟩ := hA.2.2.2
  subst hra
  subst hna
  have hlw : w.heap.size + 1 < w1.heap.size := Nat.lt_of_lt_of_le (unhide D0).1 hb.size
  have hAA := (Below.refl w1.heap.size w1).alloc (Nat.le_refl _) (.cells #[.int .i64 (walOut room l).1.first, .slice ra (walOut room l).1.recs.length rc, .slice na (walOut room l).1.names.length nc, .int .i64 (walOut room l).1.torn, .slice ga gn gc] 47)
  have HSG := hide (fun (h : (walOut room l).2 = 0) => (show ∃ xs : List (Fl × Value), xs.map Prod.fst = segsP l ∧ OwnG w0.heap.size (w1.alloc (.cells #[.int .i64 (walOut room l).1.first, .slice ra (walOut room l).1.recs.length rc, .slice na (walOut room l).1.names.length nc, .int .i64 (walOut room l).1.torn, .slice ga gn gc] 47)) (.slice ga gn gc) xs from by obtain ⟨xs, h1, h2⟩ := hsg h; exact ⟨xs, h1, h2.below hAA⟩))
  have B2 := hide (((unhide B0).trans (hb.mono (unhide B0).size)).trans (hAA.mono (Nat.le_trans (unhide B0).size hb.size)))
  have X2 := hide (((unhide X0).below hb).below hAA)
  have D2 := hide (((unhide D0).below hb).below hAA)
  have L2 := hide (Blk.new w1 #[.int .i64 (walOut room l).1.first, .slice ra (walOut room l).1.recs.length rc, .slice na (walOut room l).1.names.length nc, .int .i64 (walOut room l).1.torn, .slice ga gn gc] 47 w1.heap.size rfl)
  clear hA hsg hb hAA HRL B0 X0 D0 x0 x1
  generalize (walOut room l).1.first = fi at *
  generalize (walOut room l).1.recs.length = rn at *
  generalize (walOut room l).1.names.length = nn at *
  generalize (walOut room l).1.torn = tn at *
  generalize (walOut room l).2 = cd at *
  go_upto_region 2 with fail
  generalize w1.alloc (.cells #[.int .i64 fi, .slice ra rn rc, .slice na nn nc, .int .i64 tn, .slice ga gn gc] 47) = w2 at *
  generalize w1.heap.size = lb at *
  have hlb := (unhide L2).1
  obtain ⟨⟨d0, d1⟩, g0, g1⟩ := Blk.c2 (unhide D2)
  by_cases hc0 : cd = 0
  · subst hc0
    have HX := (unhide HW).trans (if_pos rfl)
    by_cases hneg : below < 0
    · have E := hide (HX.trans (if_pos hneg))
      have hT := ((Touch.refl (fun q => q = w.heap.size + 1) w2).setCell ⟨w.heap.size + 1, 0, none⟩ (.int .i64 0) (fun _ => rfl)).setCell ⟨w.heap.size + 1, 1, none⟩ (.slice none 0 0) (fun _ => rfl)
      have HY := hide (((unhide D2).set 0 (.int .i64 0) (by simp)).set 1 (.slice none 0 0) (by simp))
      have HK := hide ((unhide B2).trans (hT.below (unhide B2).size (fun q hq e => by omega)))
      clear hT B2 X2 D2 L2 HX HW HFA HSG
      go_wp2_with fail
      obtain ⟨⟨z0, z1⟩, _⟩ := Blk.c2 (unhide HY)
      refine bodyPost_ret (v := .tuple #[.agg #[.int .i64 0, .slice none 0 0], .int .i64 4]) (by simp [results, Tryz.results13, go_sem, z0, z1]) rfl ?_
      exact wsE_none (unhide E) rfl (unhide HK)
    · have E := hide (HX.trans (if_neg hneg))
      obtain ⟨xs, hxs, hG⟩ := unhide HSG rfl
      obtain ⟨hok, hst, hxf⟩ := unhide HFA rfl
      obtain ⟨hx8, hxp⟩ := hxf xs hxs
      have G2 := hG
      have HDR := hide (fun wx (hx : Below w2.heap.size w2 wx) => drops_any w0.heap.size fi tn below (.slice ra rn rc) (.slice na nn nc) (.slice ga gn gc) xs wx (G2.below hx) hx8 ⟨_, _, _, rfl⟩ ⟨_, _, _, rfl⟩ (fun x hx => (hxp x hx).1) (fun x hx => (hxp x hx).2))
      rw [hxs] at HDR
      have HRA := hide (fun wx av (hx : Below w.heap.size w wx) hac => runActs_any room l (dropL (fgN (segsP l) below 0) l) (.slice a l.length cap) av (fgA (segsP l) (fgN (segsP l) below 0)) wx (unhide HL wx hx) hok hac hst)
      have hsl : (dropL (fgN (segsP l) below 0) l).length ≤ 8 := Nat.le_trans (dropL_sub l _).length_le hok.len
      clear HX HW HFA HSG hxs hG hok hst hxf hx8 hxp G2 HL d0 d1 g0 g1
      generalize dropL (fgN (segsP l) below 0) l = so at *
      generalize fgA (segsP l) (fgN (segsP l) below 0) = acts at *
      go_upto_region 6 with fail
      have hd1 : Below w2.heap.size w2 w2.drew := below_drewN (Below.refl w2.heap.size w2) 1
      have BQ := hide hd1
      have BB := hide ((unhide B2).trans (hd1.mono (unhide B2).size))
      have XX := hide ((unhide X2).below hd1)
      have DD := hide ((unhide D2).below hd1)
      have LL := hide ((unhide L2).below hd1)
      clear hd1 B2 X2 D2 L2
      obtain ⟨⟨x0, x1⟩, _⟩ := Blk.c2 (unhide XX)
      obtain ⟨⟨y0, y1, y2, y3, y4⟩, _⟩ := Blk.c5z (unhide LL)
      refine wp_region_noPanic ?_
      refine wp_region_held_drew (S := (fun wx => wx.cell? ⟨w.heap.size, 0, none⟩ = some (.int .i64 room) ∧ wx.cell? ⟨w.heap.size, 1, none⟩ = some (.slice a l.length cap) ∧ wx.cell? ⟨lb, 0, none⟩ = some (.int .i64 fi) ∧ wx.cell? ⟨lb, 1, none⟩ = some (.slice ra rn rc) ∧ wx.cell? ⟨lb, 2, none⟩ = some (.slice na nn nc) ∧ wx.cell? ⟨lb, 3, none⟩ = some (.int .i64 tn) ∧ wx.cell? ⟨lb, 4, none⟩ = some (.slice ga gn gc))) (by kernel_rfl) ?_ (fun hHeld => ?_)
      · exact ⟨x0, x1, y0, y1, y2, y3, y4⟩
      generalize w2.drew = wd at *
      clear x0 x1 y0 y1 y2 y3 y4
      refine tkH 0 rfl ?_
      refine tkH 1 rfl ?_
      refine tkH 2 rfl ?_
      refine wpAnyH_ready (rs := [3]) (by kernel_rfl) (by simp) ?_
      refine AllReadyH.cons (o := _) rfl (fun K hK => ?_) AllReadyH.nil
      go_simp
      refine (unhide HDR _ (unhide BQ)).mono ?_
      rintro e w5 ⟨av, rfl, hAC, hb⟩
      replace BB := hide ((unhide BB).trans (hb.mono (unhide BB).size))
      replace XX := hide ((unhide XX).below hb)
      replace DD := hide ((unhide DD).below hb)
      replace LL := hide ((unhide LL).below hb)
      have ACS := hide hAC
      obtain ⟨aa, an, ac, hav⟩ : ∃ aa an ac, av = .slice aa an ac := by
        obtain ⟨a1, c1, h1, _⟩ := hAC; exact ⟨_, _, _, h1⟩
      subst hav
      clear hb HDR BQ hAC
      go_wp2_with fail
      refine hK.out _ _ ?_ (fun hHeld => ?_)
      · exact ⟨(Blk.c2 (unhide XX)).1.1, (Blk.c2 (unhide XX)).1.2, (Blk.c5z (unhide LL)).1.1, (Blk.c5z (unhide LL)).1.2.1, (Blk.c5z (unhide LL)).1.2.2.1, (Blk.c5z (unhide LL)).1.2.2.2.1, (Blk.c5z (unhide LL)).1.2.2.2.2⟩
      clear hK K
      (try simp only [Act.put, List.getElem_toArray, List.getElem_cons_succ, List.getElem_cons_zero, List.setIfInBounds_toArray, List.set_cons_zero, List.set_cons_succ])
      refine wpAnyH_ready (rs := [4]) (by kernel_rfl) (by simp) ?_
      refine AllReadyH.cons (o := _) rfl (fun K hK => ?_) AllReadyH.nil
      go_simp
      refine (unhide HRA _ _ (unhide BB) (unhide ACS)).mono ?_
      rintro e w7 ⟨ra2, rc2, rfl, hO, hb⟩
      have hw6 := (unhide BB).size
      have hD6 := (unhide DD).1
      replace BB := hide ((unhide BB).trans (hb.mono (unhide BB).size))
      replace XX := hide ((unhide XX).below hb)
      replace DD := hide ((unhide DD).below hb)
      replace LL := hide ((unhide LL).below hb)
      have RO := hide hO
      clear hb hO HRA ACS
      go_wp2_with fail
      refine hK.out _ _ ?_ (fun hHeld => ?_)
      · exact ⟨(Blk.c2 (unhide XX)).1.1, (Blk.c2 (unhide XX)).1.2, (Blk.c5z (unhide LL)).1.1, (Blk.c5z (unhide LL)).1.2.1, (Blk.c5z (unhide LL)).1.2.2.1, (Blk.c5z (unhide LL)).1.2.2.2.1, (Blk.c5z (unhide LL)).1.2.2.2.2⟩
      clear hK K
      (try simp only [Act.put, List.getElem_toArray, List.getElem_cons_succ, List.getElem_cons_zero, List.setIfInBounds_toArray, List.set_cons_zero, List.set_cons_succ])
      refine tkH 5 rfl ?_
      refine tkH 6 rfl ?_
      have hT := ((Touch.refl (fun q => q = w.heap.size + 1) w7).setCell ⟨w.heap.size + 1, 0, none⟩ (.int .i64 room) (fun _ => rfl)).setCell ⟨w.heap.size + 1, 1, none⟩ (.slice ra2 so.length rc2) (fun _ => rfl)
      have HY := hide (((unhide DD).set 0 (.int .i64 room) (by simp)).set 1 (.slice ra2 so.length rc2) (by simp))
      have HK := hide ((unhide BB).trans (hT.below (unhide BB).size (fun q hq e => by omega)))
      have HO := hide ((unhide RO).kept hT (fun q hq e => by have := (World.ownsRow.lt (unhide RO) q hq).1; omega))
      have XK := (unhide XX).kept hT (by omega)
      have LK := (unhide LL).kept hT (by omega)
      obtain ⟨⟨d0, d1⟩, g0, g1⟩ := Blk.c2 (unhide DD)
      clear BB XX DD LL RO hT
      refine wpAnyH_ready (rs := [7]) (by kernel_rfl) (by simp) ?_
      refine AllReadyH.cons (o := _) rfl (fun K hK => ?_) AllReadyH.nil
      go_simp
      refine hK.out _ _ ?_ (fun hHeld => ?_)
      · exact ⟨(Blk.c2 XK).1.1, (Blk.c2 XK).1.2, (Blk.c5z LK).1.1, (Blk.c5z LK).1.2.1, (Blk.c5z LK).1.2.2.1, (Blk.c5z LK).1.2.2.2.1, (Blk.c5z LK).1.2.2.2.2⟩
      clear hK K
      (try simp only [Act.put, List.getElem_toArray, List.getElem_cons_succ, List.getElem_cons_zero, List.setIfInBounds_toArray, List.set_cons_zero, List.set_cons_succ])
      refine tkH 8 rfl ?_
      refine wpAnyH_done (by kernel_rfl) (NoPanic.normal ?_) _
      clear d0 d1 g0 g1 hHeld XK LK
      go_wp2_with fail
      obtain ⟨⟨z0, z1⟩, _⟩ := Blk.c2 (unhide HY)
      refine bodyPost_ret (v := .tuple #[.agg #[.int .i64 room, .slice ra2 so.length rc2], .int .i64 0]) (by simp [results, Tryz.results13, go_sem, z0, z1]) rfl ?_
      rw [unhide E]
      exact ⟨ra2, rc2, rfl, World.ownsRow.mono (unhide HO) hw6, unhide HK⟩
  · have E := hide ((unhide HW).trans (if_neg hc0))
    have hcb : (cd == 0) = false := by rw [beq_eq_false_iff_ne]; exact hc0
    have hT := ((Touch.refl (fun q => q = w.heap.size + 1) w2).setCell ⟨w.heap.size + 1, 0, none⟩ (.int .i64 0) (fun _ => rfl)).setCell ⟨w.heap.size + 1, 1, none⟩ (.slice none 0 0) (fun _ => rfl)
    have HY := hide (((unhide D2).set 0 (.int .i64 0) (by simp)).set 1 (.slice none 0 0) (by simp))
    have HK := hide ((unhide B2).trans (hT.below (unhide B2).size (fun q hq e => by omega)))
    clear hT B2 X2 D2 L2 HW HFA HSG
    go_wp2_with fail
    obtain ⟨⟨z0, z1⟩, _⟩ := Blk.c2 (unhide HY)
    refine bodyPost_ret (v := .tuple #[.agg #[.int .i64 0, .slice none 0 0], .int .i64 cd]) (by simp [results, Tryz.results13, go_sem, z0, z1]) rfl ?_
    exact wsE_none (unhide E) rfl (unhide HK)
end Go.Proofs.YtfihhkhdigbmiaaGreatDoor
namespace Go.Proofs.YtfihhkhdigbmiaaGreatDoor
open Go.ChangeShapes Go.WideShapes Go.ChangeAt Go.RowKit
set_option linter.unusedVariables false

/-- The specification's reader lies in block b, over the bytes l, at place p. -/
def SR (w : World) (b : Nat) (a : Option Addr) (cap : Nat) (l : List Int) (p : Nat) (bad : Bool) : Prop :=
  w.cell? ⟨b, 0, none⟩ = some (.slice a l.length cap) ∧ w.cell? ⟨b, 1, none⟩ = some (.int .i64 p) ∧ w.cell? ⟨b, 2, none⟩ = some (.bool bad) ∧ (∀ j, w.frozen? ⟨b, j, none⟩ = false) ∧ b < w.heap.size ∧ p ≤ l.length ∧ RdV w b (.slice a l.length cap) l ∧ l.length ≤ 65536
theorem SR.kept {T : Nat → Prop} {w w' : World} {b : Nat} {a : Option Addr} {cap : Nat} {l : List Int} {p : Nat} {bad : Bool} (h : SR w b a cap l p bad) (ht : Touch T w w') (hn : ∀ k, k ≤ b → ¬ T k) : SR w' b a cap l p bad := by
  obtain ⟨h0, h1, h2, hf, hlt, hp, hv, hl⟩ := h
  have hnb : ¬ T b := hn b (Nat.le_refl _)
  exact ⟨(ht.cell hlt hnb).trans h0, (ht.cell hlt hnb).trans h1, (ht.cell hlt hnb).trans h2, fun j => (ht.frozen hlt hnb).trans (hf j), Nat.lt_of_lt_of_le hlt ht.size, hp, hv.kept (Nat.le_of_lt hlt) ht (fun k hk => hn k (Nat.le_of_lt hk)), hl⟩
theorem SR.drewN {w : World} {b : Nat} {a : Option Addr} {cap : Nat} {l : List Int} {p : Nat} {bad : Bool} (h : SR w b a cap l p bad) (n : Nat) : SR (w.drewN n) b a cap l p bad := h.kept (T := fun _ => False) ((Touch.refl _ _).drewN n) (fun _ _ h => h)
theorem SR.alloc {w : World} {b : Nat} {a : Option Addr} {cap : Nat} {l : List Int} {p : Nat} {bad : Bool} (h : SR w b a cap l p bad) (o : Obj) : SR (w.alloc o) b a cap l p bad := h.kept (T := fun _ => False) ((Touch.refl _ _).alloc o) (fun _ _ h => h)
theorem SR.other {w : World} {b C : Nat} {a : Option Addr} {cap : Nat} {l : List Int} {p : Nat} {bad : Bool} (h : SR w b a cap l p bad) (j : Nat) (v : Value) (hne : b < C) : SR (w.setCell ⟨C, j, none⟩ v) b a cap l p bad :=
  h.kept (T := fun k => k = C) ((Touch.refl _ _).setCell _ _ (fun _ => rfl)) (fun k hk e => by omega)
theorem SR.at {w : World} {b : Nat} {a : Option Addr} {cap : Nat} {l : List Int} {p : Nat} {bad : Bool} (h : SR w b a cap l p bad) (q : Nat) (hq : q ≤ l.length) : SR (w.setCell ⟨b, 1, none⟩ (.int .i64 q)) b a cap l q bad := by
  obtain ⟨h0, h1, h2, hf, hlt, hp, hv, hl⟩ := h
  refine ⟨?_, World.cell?_setCell_same _ _ _ h1, ?_, fun j => by rw [World.frozen?_setCell]; exact hf j, by simpa using hlt, hq, hv.kept (Nat.le_of_lt hlt) (set_touch w b 1 _) (fun k hk e => by omega), hl⟩
  · rw [World.cell?_setCell_other _ _ _ _ (by simp)]; exact h0
  · rw [World.cell?_setCell_other _ _ _ _ (by simp)]; exact h2
theorem SR.spoil {w : World} {b : Nat} {a : Option Addr} {cap : Nat} {l : List Int} {p : Nat} {bad : Bool} (h : SR w b a cap l p bad) : SR (w.setCell ⟨b, 2, none⟩ (.bool true)) b a cap l p true := by
  obtain ⟨h0, h1, h2, hf, hlt, hp, hv, hl⟩ := h
  refine ⟨?_, ?_, World.cell?_setCell_same _ _ _ h2, fun j => by rw [World.frozen?_setCell]; exact hf j, by simpa using hlt, hp, hv.kept (Nat.le_of_lt hlt) (set_touch w b 2 _) (fun k hk e => by omega), hl⟩
  · rw [World.cell?_setCell_other _ _ _ _ (by simp)]; exact h0
  · rw [World.cell?_setCell_other _ _ _ _ (by simp)]; exact h1
theorem SR.src {w : World} {b : Nat} {a : Option Addr} {cap : Nat} {l : List Int} {p : Nat} {bad : Bool} (h : SR w b a cap l p bad) (i : Nat) (hi : i < l.length) : ∃ c off, a = some ⟨c, off, none⟩ ∧ w.cell? ⟨c, off + i, none⟩ = some (.int .u8 (l.getD i 0)) ∧ 0 ≤ l.getD i 0 ∧ l.getD i 0 ≤ 255 := by
  obtain ⟨_, _, _, _, _, _, ⟨a', cap', hv, h1, h2, hc, hr⟩, _⟩ := h
  simp only [Value.slice.injEq] at hv
  obtain ⟨rfl, _, rfl⟩ := hv
  rcases hc with ⟨_, h0⟩ | ⟨c, off, rfl, _, hcell⟩
  · omega
  · exact ⟨c, off, rfl, hcell i hi, hr i⟩

set_option maxRecDepth 100000 in
set_option maxHeartbeats 1000000 in
theorem specNumber_bad (n : Nat) (ni : Int) (hni : ni = (n : Int)) (b : Nat) (a : Option Addr) (cap : Nat) (l : List Int) (p : Nat) (w : World) (h : SR w b a cap l p true) (hn : 1 ≤ n) (hn4 : n ≤ 4) :
    Calls Tryz.prog 52 #[.pointer (some ⟨b, 0, none⟩), .int .i64 ni] w fun e w' => e = .returned (.int .i64 0) ∧ SR w' b a cap l p true ∧ Touch (fun k => k = b) w w' ∧ w'.heap.size = w.heap.size := by
  subst hni
  obtain ⟨h0, h1, h2, hf, hlt, hp, hv, hl⟩ := id h
  have f2 := hf 2
  have H := hide h
  have hn0 : (0 : Int) < (n : Int) := by omega
  clear h hf hv
  go_enter Tryz.func52, Tryz.ntmps52
  go_wp2_with fail
  refine wp_loop_rounds 1 ?_
  rw [rounds_succ]
  go_wp2_with fail
  go_quiet (fail)
  go_wp2_with fail
  go_ret
  have S1 := ((unhide H).drewN nq).spoil
  exact ⟨rfl, S1, ((Touch.refl _ _).drewN nq).setCell _ _ (fun _ => rfl), by simp⟩

set_option maxRecDepth 100000 in
set_option maxHeartbeats 1000000 in
theorem specNumber_any (n : Nat) (ni : Int) (hni : ni = (n : Int)) (b : Nat) (a : Option Addr) (cap : Nat) (l : List Int) (p : Nat) (w : World) (h : SR w b a cap l p false) (hn4 : n ≤ 4) :
    Calls Tryz.prog 52 #[.pointer (some ⟨b, 0, none⟩), .int .i64 ni] w fun e w' => ∃ x q bad, e = .returned (.int .i64 x) ∧ SR w' b a cap l q bad ∧ (p + n ≤ l.length → x = decN (l.drop p) n ∧ q = p + n ∧ bad = false) ∧ (¬ p + n ≤ l.length → x = 0 ∧ bad = true) ∧ Touch (fun k => k = b) w w' ∧ w'.heap.size = w.heap.size := by
  subst hni
  have H := hide h
  clear h
  go_enter Tryz.func52, Tryz.ntmps52
  go_wp2_with fail
  go_loopw [5, 6] (fun o i wr => ∃ k : Nat, k ≤ n ∧ p + k ≤ l.length ∧ i = .int .i64 k ∧ o = .int .i64 (decN (l.drop p) k) ∧ SR wr b a cap l (p + k) false ∧ Touch (fun k => k = b) w wr ∧ wr.heap.size = w.heap.size) (fun _ i _ => n - (intOf i).toNat)
  case atStart =>
    have hp := (unhide H).2.2.2.2.2.1
    exact ⟨0, Nat.zero_le _, hp, rfl, rfl, unhide H, Touch.refl _ _, rfl⟩
  case round =>
    obtain ⟨k, hk, hpk, rfl, rfl, hS, hT, hz⟩ := hrel
    by_cases hlt : k < n
    · obtain ⟨h0, h1, h2, hf, hb, hp, hv, hl⟩ := id hS
      have f1 := hf 1
      have f2 := hf 2
      by_cases hin : p + k < l.length
      · obtain ⟨c, off, rfl, hs1, hx0, hx1⟩ := hS.src (p + k) hin
        have HG := hide (getD_drop (l := l) (n := p) (i := k))
        have hrg : ∀ i, 0 ≤ (l.drop p).getD i 0 ∧ (l.drop p).getD i 0 ≤ 255 := range_drop p (by obtain ⟨_, _, _, _, _, _, hr⟩ := hv; exact hr)
        have hd := decN_lo (l.drop p) hrg k
        have hp3 : (256 : Int) ^ k ≤ 16777216 := by rcases (show k = 0 ∨ k = 1 ∨ k = 2 ∨ k = 3 by omega) with rfl | rfl | rfl | rfl <;> decide
        have hd2 : decN (l.drop p) k < 16777216 := by omega
        have hd1 := hd.1
        have HS : Hid (decN (l.drop p) (k + 1) = decN (l.drop p) k * 256 + (l.drop p).getD k 0) := rfl
        have R := hide (And.intro hS (And.intro hT hz))
        clear hS hT hz hf hv hrg hd hp3
        rw [unhide HG] at HS
        generalize l.getD (p + k) 0 = x at *
        generalize decN (l.drop p) k = y at *
        have m0 : IntKind.i64.wrap (y * 256) = y * 256 := by simp only [IntKind.wrap, IntKind.bits, IntKind.signed]; simp; omega
        have m1 : IntKind.i64.wrap (y * 256 + x) = y * 256 + x := by simp only [IntKind.wrap, IntKind.bits, IntKind.signed]; simp; omega
        have m2 : IntKind.i64.wrap x = x := by simp only [IntKind.wrap, IntKind.bits, IntKind.signed]; simp; omega
        have p0 : (0 : Int) ≤ ((p + k : Nat) : Int) := by omega
        have p1 : ((p + k : Nat) : Int) < (l.length : Int) := by omega
        have p2 : decide ((l.length : Int) ≤ ((p + k : Nat) : Int)) = false := by simp; omega
        have m3 : IntKind.i64.wrap (((p + k : Nat) : Int) + 1) = ((p + k + 1 : Nat) : Int) := by simp only [IntKind.wrap, IntKind.bits, IntKind.signed]; simp; omega
        have hln : (k : Int) < (n : Int) := by omega
        generalize hq : p + k = q at *
        have HQ := hide hq
        clear hq
        go_wp2_with fail
        go_quiet (fail)
        go_wp2_with fail
        have e0 : (wr.drewN nq).cell? ⟨b, 0, none⟩ = _ := h0
        have e1 : (wr.drewN nq).cell? ⟨b, 1, none⟩ = _ := h1
        have e3 : (wr.drewN nq).cell? ⟨c, off + q, none⟩ = _ := hs1
        have e4 : (wr.drewN nq).frozen? ⟨b, 1, none⟩ = false := f1
        have HQ2 := unhide HQ
        subst HQ2
        have R2 := hide (And.intro ((unhide R).1.drewN nq) (And.intro ((unhide R).2.1.drewN nq) (show (wr.drewN nq).heap.size = w.heap.size from (unhide R).2.2)))
        clear h0 h1 h2 hs1 f1 f2 R
        generalize wr.drewN nq = w1 at *
        generalize hq : p + k = q at *
        have HQ := hide hq
        clear hq
        go_quiet (fail)
        go_wp2_with fail
        have S3 := (((unhide R2).1).drewN nq).at (q + 1) (by omega)
        refine ⟨⟨k + 1, by omega, by have := unhide HQ; omega, by go_num, by rw [unhide HS], ?_, ((unhide R2).2.1.drewN nq).setCell _ _ (fun _ => rfl), by simpa using (unhide R2).2.2⟩, by simp [intOf]; omega⟩
        rw [show p + (k + 1) = q + 1 by have := unhide HQ; omega]
        exact S3
      · have hpe : p + k = l.length := by omega
        have p3 : (l.length : Int) ≤ ((p + k : Nat) : Int) := by omega
        have hln : (k : Int) < (n : Int) := by omega
        have R := hide (And.intro hS (And.intro hT hz))
        have HE := hide hpe
        clear hS hT hz hf hv hpe hin
        generalize hq : p + k = q at *
        have HQ := hide hq
        clear hq
        go_wp2_with fail
        go_quiet (fail)
        go_wp2_with fail
        go_ret
        refine ⟨0, q, true, rfl, (((unhide R).1).drewN nq).spoil, fun h => ?_, fun _ => ⟨rfl, rfl⟩, ((unhide R).2.1.drewN nq).setCell _ _ (fun _ => rfl), by simpa using (unhide R).2.2⟩
        have := unhide HQ
        have := unhide HE
        omega
    · obtain rfl : k = n := by omega
      have R := hide (And.intro hS (And.intro hT hz))
      clear hS hT hz
      go_wp2_with fail
      go_ret
      exact ⟨_, _, _, rfl, (unhide R).1, fun _ => ⟨rfl, rfl, rfl⟩, fun h => absurd hpk h, (unhide R).2.1, (unhide R).2.2⟩

end Go.Proofs.YtfihhkhdigbmiaaGreatDoor
namespace Go.Proofs.YtfihhkhdigbmiaaGreatDoor
open Go.ChangeShapes Go.WideShapes Go.ChangeAt Go.RowKit
set_option linter.unusedVariables false

theorem less_trans : ∀ x y z : List UInt8, Op.bytesLess x y = true → Op.bytesLess y z = true → Op.bytesLess x z = true
  | [], _, [], h1, h2 => by
    rename_i y
    cases y <;> simp [Op.bytesLess] at h1 h2
  | [], _, c :: z, h1, h2 => by simp [Op.bytesLess]
  | a :: x, [], z, h1, h2 => by simp [Op.bytesLess] at h1
  | a :: x, b :: y, [], h1, h2 => by simp [Op.bytesLess] at h2
  | a :: x, b :: y, c :: z, h1, h2 => by
    have ih := less_trans x y z
    have k1 : ∀ a b : UInt8, (a < b) = (a.toNat < b.toNat) := fun a b => by rw [UInt8.lt_iff_toNat_lt]
    have k2 : ∀ a b : UInt8, (a == b) = decide (a.toNat = b.toNat) := fun a b => by
      rw [Bool.eq_iff_iff]; simp [UInt8.toNat_inj]
    simp only [Op.bytesLess, k1, k2, Bool.or_eq_true, Bool.and_eq_true, decide_eq_true_eq] at h1 h2 ⊢
    rcases h1 with h1 | ⟨h1, h3⟩
    · rcases h2 with h2 | ⟨h2, h4⟩
      · left; omega
      · left; omega
    · rcases h2 with h2 | ⟨h2, h4⟩
      · left; omega
      · right; exact ⟨by omega, ih h3 h4⟩
theorem less_irr (x : List UInt8) : Op.bytesLess x x = false := by
  have := less_tri x x
  simp at this
  exact this
theorem rising {room : Int} {l : List Fl} (h : diskB room l = true) : ∀ j, j < l.length → ∀ i, i < j → lessB (l.getD i default).n (l.getD j default).n = true := by
  have hall : ∀ i, i < l.length → fileB l i = true := by
    unfold diskB at h
    simp only [Bool.and_eq_true] at h
    exact fun i hi => List.all_eq_true.1 h.1.2 i (by simpa using hi)
  intro j
  induction j with
  | zero => intro _ i hi; omega
  | succ j ih =>
    intro hj i hi
    have h1 := hall (j + 1) hj
    unfold fileB at h1
    simp only [Bool.and_eq_true, Bool.or_eq_true, decide_eq_true_eq, Nat.add_sub_cancel] at h1
    have h2 : lessB (l.getD j default).n (l.getD (j + 1) default).n = true := by
      rcases h1.2 with h0 | h0
      · omega
      · exact h0
    by_cases e : i = j
    · subst e; exact h2
    · exact less_trans _ _ _ (ih (by omega) i (by omega)) h2
theorem names_apart {room : Int} {l : List Fl} (h : diskB room l = true) (i j : Nat) (hij : i < j) (hj : j < l.length) : (l.getD i default).n ≠ (l.getD j default).n := fun e => by
  have h1 := rising h j hj i hij
  rw [e] at h1
  unfold lessB at h1
  rw [less_irr] at h1
  cases h1
theorem seg_at {room : Int} {l : List Fl} (h : diskB room l = true) (k : Nat) (hk : k < (segsP l).length) : ∃ i0, i0 < l.length ∧ l.getD i0 default = (segsP l).getD k default ∧ 0 < plcP ((segsP l).getD k default).n ∧ ∀ j, j < i0 → (l.getD j default).n ≠ ((segsP l).getD k default).n := by
  have hm : (segsP l).getD k default ∈ segsP l := by rw [List.getD_eq_getElem?_getD, List.getElem?_eq_getElem hk]; exact List.getElem_mem _
  obtain ⟨h1, h2⟩ := List.mem_filter.1 hm
  obtain ⟨i0, hi, he⟩ := List.getElem_of_mem h1
  have he2 : l.getD i0 default = (segsP l).getD k default := by rw [List.getD_eq_getElem?_getD, List.getElem?_eq_getElem hi]; exact he
  refine ⟨i0, hi, he2, by simpa using h2, fun j hj => ?_⟩
  rw [← he2]
  exact names_apart h j i0 hj hi
theorem nums_get (l : List Fl) (k : Nat) (hk : k < (segsP l).length) : (numsP l).getD k 0 = plcP ((segsP l).getD k default).n := by
  unfold numsP
  rw [List.getD_eq_getElem?_getD, List.getElem?_map, List.getElem?_eq_getElem hk, List.getD_eq_getElem?_getD, List.getElem?_eq_getElem hk]; rfl
theorem nums_len (l : List Fl) : (numsP l).length = (segsP l).length := by simp [numsP]
theorem frP_none (b : List Int) (p : Nat) (h : (frP b p).1 = []) : (frP b p).2.1 = p := by
  rw [frP] at h ⊢
  by_cases h1 : p < b.length
  · rw [dif_pos h1] at h ⊢
    by_cases h2 : (frStep (b.drop p)).1 = 0
    · rw [if_pos h2] at h; cases h
    · rw [if_neg h2]
  · rw [dif_neg h1]
/-- The specification's log while it is read: its box, its texts, the segments' numbers. -/
structure SpR (B lb : Nat) (w1 : World) (lv : Value) (nums : List Int) (L : Lg) (rv nv : Value) (wr : World) : Prop where
  bel : Below B w1 wr
  box : Blk wr lb [.int .i64 L.first, rv, nv, .int .i64 L.torn]
  rcs : OwnS B wr rv L.recs
  nam : OwnS B wr nv L.names
  dis : ∀ k, rv.ownBlock = some k → nv.ownBlock ≠ some k
  rne : ∀ k, rv.ownBlock = some k → k ≠ lb
  nne : ∀ k, nv.ownBlock = some k → k ≠ lb
  num : OwnN B wr lv nums
  lne : ∀ k, lv.ownBlock = some k → k ≠ lb
  le : B ≤ lb
  lw : B ≤ w1.heap.size
theorem SpR.below {B lb : Nat} {w1 : World} {lv : Value} {nums : List Int} {L : Lg} {rv nv : Value} {wr w' : World} (h : SpR B lb w1 lv nums L rv nv wr) (hb : Below wr.heap.size wr w') : SpR B lb w1 lv nums L rv nv w' :=
  ⟨h.bel.trans (hb.mono (Nat.le_trans h.lw h.bel.size)), h.box.below hb, h.rcs.below hb, h.nam.below hb, h.dis, h.rne, h.nne, h.num.below hb, h.lne, h.le, h.lw⟩
theorem SpR.set {B lb : Nat} {w1 : World} {lv : Value} {nums : List Int} {L L' : Lg} {rv nv : Value} {wr : World} (h : SpR B lb w1 lv nums L rv nv wr) (j : Nat) (u : Value)
    (hb : Blk (wr.setCell ⟨lb, j, none⟩ u) lb [.int .i64 L'.first, rv, nv, .int .i64 L'.torn]) (hr : L'.recs = L.recs) (hn : L'.names = L.names) : SpR B lb w1 lv nums L' rv nv (wr.setCell ⟨lb, j, none⟩ u) := by
  have ht := (Touch.refl (fun k => k = lb) wr).setCell ⟨lb, j, none⟩ u (fun _ => rfl)
  refine ⟨h.bel.setCell (p := ⟨lb, j, none⟩) h.le u, hb, ?_, ?_, h.dis, h.rne, h.nne, own_kept h.num ht h.lne, h.lne, h.le, h.lw⟩
  · rw [hr]; exact h.rcs.kept ht h.rne
  · rw [hn]; exact h.nam.kept ht h.nne
theorem SpR.setFirst {B lb : Nat} {w1 : World} {lv : Value} {nums : List Int} {L : Lg} {rv nv : Value} {wr : World} (h : SpR B lb w1 lv nums L rv nv wr) (t : Int) : SpR B lb w1 lv nums ⟨t, L.recs, L.names, L.torn⟩ rv nv (wr.setCell ⟨lb, 0, none⟩ (.int .i64 t)) :=
  h.set 0 _ (h.box.set 0 (.int .i64 t) (by simp)) rfl rfl
theorem SpR.setTorn {B lb : Nat} {w1 : World} {lv : Value} {nums : List Int} {L : Lg} {rv nv : Value} {wr : World} (h : SpR B lb w1 lv nums L rv nv wr) (t : Int) : SpR B lb w1 lv nums ⟨L.first, L.recs, L.names, t⟩ rv nv (wr.setCell ⟨lb, 3, none⟩ (.int .i64 t)) :=
  h.set 3 _ (h.box.set 3 (.int .i64 t) (by simp)) rfl rfl
theorem SpR.named {B lb gg capg n : Nat} {w1 w5 : World} {lv : Value} {nums : List Int} {L : Lg} {rv nv : Value} {wr : World} {fn : ByteArray} {o : Obj} (h : SpR B lb w1 lv nums L rv nv wr)
    (h1 : w5.ownsRow B 9 1 (.slice (some ⟨gg, 0, none⟩) n capg) n (L.names.map Value.string ++ [Value.string fn])) (hg : (wr.alloc o).grownBy w5 nv.ownBlock) (hat : nv.ownBlock = some gg ∨ gg = wr.heap.size + 1) :
    w5.cell? ⟨lb, 2, none⟩ = some nv ∧ w5.frozen? ⟨lb, 2, none⟩ = false ∧ SpR B lb w1 lv nums ⟨L.first, L.recs, L.names ++ [fn], L.torn⟩ rv (.slice (some ⟨gg, 0, none⟩) n capg) (w5.setCell ⟨lb, 2, none⟩ (.slice (some ⟨gg, 0, none⟩) n capg)) ∧ Touch (fun k => nv.ownBlock = some k ∨ k = lb) wr (w5.setCell ⟨lb, 2, none⟩ (.slice (some ⟨gg, 0, none⟩) n capg)) := by
  have hT : Touch (fun k => nv.ownBlock = some k) wr w5 := (((Touch.refl _ wr).alloc o).grown hg (fun k hk _ => hk))
  have hn : n = (L.names ++ [fn]).length := by have := h1.1; simp at this; simp; omega
  have hO : OwnS B w5 (.slice (some ⟨gg, 0, none⟩) n capg) (L.names ++ [fn]) := by
    unfold OwnS
    rw [List.map_append, ← hn]
    exact h1
  have hat' : ∀ k, (Value.slice (some ⟨gg, 0, none⟩) n capg).ownBlock = some k → nv.ownBlock = some k ∨ wr.heap.size ≤ k := fun k hk => by
    have e : gg = k := by simpa [Value.ownBlock] using hk
    subst e
    rcases hat with h0 | h0
    · exact .inl h0
    · right; omega
  have hB := h.box.kept hT (fun e => h.nne lb e rfl)
  have hs := (Touch.refl (fun k => k = lb) w5).setCell ⟨lb, 2, none⟩ (.slice (some ⟨gg, 0, none⟩) n capg) (fun _ => rfl)
  have hne : ∀ k, (Value.slice (some ⟨gg, 0, none⟩) n capg).ownBlock = some k → k ≠ lb := fun k hk e => by
    rcases hat' k hk with h3 | h3
    · exact h.nne k h3 e
    · have := h.box.1; omega
  refine ⟨hB.cell 2 rfl, hB.fro 2, ⟨?_, hB.set 2 _ (by simp), (h.rcs.kept hT (fun k hk e => h.dis k hk e)).kept hs h.rne, hO.kept hs hne, fun k hk e => ?_, h.rne, hne, own_kept (own_kept h.num hT (fun k hk e => own_apart2 h.num h.nam (by decide) k hk e)) hs h.lne, h.lne, h.le, h.lw⟩, ⟨hs.os.trans hT.os, hs.tape.trans hT.tape, hs.output.trans hT.output, Nat.le_trans hT.size hs.size, fun k hk hn => (hs.block k (Nat.lt_of_lt_of_le hk hT.size) (fun e => hn (.inr e))).trans (hT.block k hk (fun e => hn (.inl e)))⟩⟩
  · have h3 := hT.below (B := B) (Nat.le_trans h.lw h.bel.size) (fun k hk e => by have := (h.nam.lt k e).1; omega)
    exact (h.bel.trans h3).setCell (p := ⟨lb, 2, none⟩) h.le _
  · rcases hat' k e with h3 | h3
    · exact h.dis k hk h3
    · have := (h.rcs.lt k hk).2; omega
theorem SpR.recorded {B lb n : Nat} {w1 w5 : World} {lv : Value} {nums : List Int} {L : Lg} {rv nv : Value} {wr : World} {ts : List ByteArray} {a7 : Option Addr} {c7 : Nat} (h : SpR B lb w1 lv nums L rv nv wr)
    (h1 : w5.ownsRow B 9 1 (.slice a7 n c7) n (L.recs.map Value.string ++ ts.map Value.string)) (hg : wr.grownBy w5 rv.ownBlock) (hat : (Value.slice a7 n c7).ownBlock = rv.ownBlock ∨ (Value.slice a7 n c7).ownBlock = some wr.heap.size) :
    w5.cell? ⟨lb, 1, none⟩ = some rv ∧ w5.frozen? ⟨lb, 1, none⟩ = false ∧ SpR B lb w1 lv nums ⟨L.first, L.recs ++ ts, L.names, L.torn⟩ (.slice a7 n c7) nv (w5.setCell ⟨lb, 1, none⟩ (.slice a7 n c7)) := by
  have hT : Touch (fun k => rv.ownBlock = some k) wr w5 := (Touch.refl _ wr).grown hg (fun k hk _ => hk)
  have hn : n = (L.recs ++ ts).length := by have := h1.1; simp at this; simp; omega
  have hO : OwnS B w5 (.slice a7 n c7) (L.recs ++ ts) := by
    unfold OwnS
    rw [List.map_append, ← hn]
    exact h1
  have hat' : ∀ k, (Value.slice a7 n c7).ownBlock = some k → rv.ownBlock = some k ∨ wr.heap.size ≤ k := fun k hk => by
    rcases hat with h0 | h0
    · left; rw [← h0]; exact hk
    · right; rw [h0] at hk; cases hk; exact Nat.le_refl _
  have hB := h.box.kept hT (fun e => h.rne lb e rfl)
  have hs := (Touch.refl (fun k => k = lb) w5).setCell ⟨lb, 1, none⟩ (.slice a7 n c7) (fun _ => rfl)
  have hne : ∀ k, (Value.slice a7 n c7).ownBlock = some k → k ≠ lb := fun k hk e => by
    rcases hat' k hk with h3 | h3
    · exact h.rne k h3 e
    · have := h.box.1; omega
  refine ⟨hB.cell 1 rfl, hB.fro 1, ?_, hB.set 1 _ (by simp), hO.kept hs hne, (h.nam.kept hT (fun k hk e => h.dis k e hk)).kept hs h.nne, fun k hk e => ?_, hne, h.nne, own_kept (own_kept h.num hT (fun k hk e => own_apart2 h.num h.rcs (by decide) k hk e)) hs h.lne, h.lne, h.le, h.lw⟩
  · have h3 := hT.below (B := B) (Nat.le_trans h.lw h.bel.size) (fun k hk e => by have := (h.rcs.lt k e).1; omega)
    exact (h.bel.trans h3).setCell (p := ⟨lb, 1, none⟩) h.le _
  · rcases hat' k hk with h3 | h3
    · exact h.dis k h3 e
    · have := (h.nam.lt k e).2; omega
end Go.Proofs.YtfihhkhdigbmiaaGreatDoor
namespace Go.Proofs.YtfihhkhdigbmiaaGreatDoor
open Go.ChangeShapes Go.WideShapes Go.ChangeAt Go.RowKit fnExactCheck32
set_option linter.unusedVariables false

theorem news_bytes {w : World} {c off : Nat} {l : List Int} (hc : ∀ i, i < l.length → w.cell? ⟨c, off + i, none⟩ = some (.int .u8 (l.getD i 0))) : ∀ j u, (l.map (Value.int .u8))[j]? = some u → w.cell? ((⟨c, off, none⟩ : Addr).add j) = some u := fun j u hu => by
  have hadd : (⟨c, off, none⟩ : Addr).add j = ⟨c, off + j, none⟩ := by unfold Addr.add; split <;> simp_all
  rw [List.getElem?_map] at hu
  rw [hadd]
  by_cases hj : j < l.length
  · rw [hc j hj]
    rw [List.getElem?_eq_getElem hj] at hu
    rw [List.getD_eq_getElem?_getD, List.getElem?_eq_getElem hj]
    simpa using hu
  · rw [List.getElem?_eq_none (by omega)] at hu; cases hu

set_option maxRecDepth 100000 in
set_option maxHeartbeats 1000000 in
theorem l02Frame_any (c off cap : Nat) (l : List Int) (w : World) (hc : c < w.heap.size) (hcell : ∀ i, i < l.length → w.cell? ⟨c, off + i, none⟩ = some (.int .u8 (l.getD i 0))) (hr : ∀ i, 0 ≤ l.getD i 0 ∧ l.getD i 0 ≤ 255) (h0 : 0 < l.length) (h1 : l.length ≤ 200) :
    Calls Tryz.prog 74 #[.slice (some ⟨c, off, none⟩) l.length cap] w fun e w' => ∃ v', e = .returned v' ∧ OwnB w.heap.size w' v' (frameL l) ∧ Below w.heap.size w w' := by
  obtain ⟨i0, hi, hz0, hz1, hz2⟩ := info_parts info5
  have HC := hide hcell
  have HR := hide hr
  have hs := sumF_range l hr
  have HE2 : Hid (encN (l.length : Int) 2 = [(l.length : Int) / 256 % 256, (l.length : Int) % 256]) := hide (by simp [encN])
  clear hcell hr
  go_enter Tryz.func74, Tryz.ntmps74
  go_wp2_with fail
  refine (l02Two_any l.length w (by omega) (by omega)).mono ?_
  rintro e w1 ⟨rfl, rfl⟩
  have B1 := hide ((Below.refl w.heap.size w).alloc (Nat.le_refl _) (.cells #[.int .u8 ((l.length : Int) / 256 % 256), .int .u8 ((l.length : Int) % 256)] 5))
  have H1 : Hid ((w.alloc (.cells #[.int .u8 ((l.length : Int) / 256 % 256), .int .u8 ((l.length : Int) % 256)] 5)).heap[w.heap.size]? = some (.cells #[.int .u8 ((l.length : Int) / 256 % 256), .int .u8 ((l.length : Int) % 256)] 5 (0, 0))) := hide (heap_new rfl)
  have hz : w.heap.size < (w.alloc (.cells #[.int .u8 ((l.length : Int) / 256 % 256), .int .u8 ((l.length : Int) % 256)] 5)).heap.size := by simp
  generalize w.alloc (.cells #[.int .u8 ((l.length : Int) / 256 % 256), .int .u8 ((l.length : Int) % 256)] 5) = w1 at *
  go_wp2_with (first
    | (at_builtin; refine wpList_append_lies _ rfl _ _ _ rfl (w.heap.size + 1) 5 i0 _ 1 1 Tryz.underlying79 hi hz0 hz1 hz2 rfl (by omega) (.slice (some ⟨w1.heap.size, 0, none⟩) 0 0) 0 [] rfl (own_empty w1 (w.heap.size + 1) w1.heap.size rfl (by omega)).1 ⟨w.heap.size, 0, none⟩ 2 2 [_, _] rfl rfl (World.news_of_block (cs := #[_, _]) (t := 5) (fr := (0, 0)) ((heap_old hz).trans (unhide H1))) (by simp [Value.oneCell']) (by omega) (by unfold maxLen; omega) (by omega) (by simp; omega) _ rfl ?_; intro g2 cap2 w2 hown2 hgrow2 hat2 hlt2; have b2 : Below (w.heap.size + 1) w1 w2 := ((Below.refl (w.heap.size + 1) w1).alloc (by omega) _).grown hgrow2 (by simp; omega) (fun r hr => by simp [Value.ownBlock] at hr; omega); have B2 := hide ((unhide B1).trans (b2.mono (by omega))); have O2 := hide hown2; have H2 := hide ((b2.block w.heap.size (by omega)).trans (unhide H1)); have z2 := b2.size; clear hown2 hgrow2 hat2 hlt2 b2)
    | (at_builtin; refine wpList_append_lies _ rfl _ _ _ rfl (w.heap.size + 1) 5 i0 _ 1 1 Tryz.underlying79 hi hz0 hz1 hz2 rfl (by omega) (.slice (some ⟨g2, 0, none⟩) (0 + 2) cap2) (0 + 2) _ rfl (unhide O2) ⟨c, off, none⟩ l.length cap (l.map (Value.int .u8)) rfl (by simp) (news_bytes (fun i hi => ((unhide B2).cell (p := ⟨c, off + i, none⟩) hc).trans (unhide HC i hi))) (by simp [Value.oneCell']) h0 (by unfold maxLen; omega) (by omega) (by omega) _ rfl ?_; intro g3 cap3 w3 hown3 hgrow3 hat3 hlt3; have b3 : Below (w.heap.size + 1) w2 w3 := (Below.refl (w.heap.size + 1) w2).grown hgrow3 (by omega) (fun r hr => ((unhide O2).lt r hr).1); have B3 := hide ((unhide B2).trans (b3.mono (by omega))); have O3 := hide hown3; have H3 := hide ((b3.block w.heap.size (by omega)).trans (unhide H2)); have z3 := b3.size; clear hown3 hgrow3 hat3 hlt3 b3))
  have OB3 : Hid (OwnB (w.heap.size + 1) w3 (.slice (some ⟨g3, 0, none⟩) (2 + l.length) cap3) (encN (l.length : Int) 2 ++ l)) := hide (by
    have h := unhide O3
    have hn : (encN (l.length : Int) 2 ++ l).length = 0 + 2 + l.length := by simp [encN]; omega
    refine ⟨?_, range_append (encN_range _ _) (unhide HR)⟩
    rw [hn, unhide HE2]
    have e : (2 + l.length) = 0 + 2 + l.length := by omega
    rw [e]
    simpa using h)
  clear O2 O3 H2 B2
  have HSM := hide (show sumF l = ((crc (encN (l.length : Int) 2 ++ l) (encN (l.length : Int) 2 ++ l).length ^^^ 4294967295 : Nat) : Int) by
    unfold sumF crcV; rw [if_neg (by simp [encN]; omega)])
  have hl2 : (encN (l.length : Int) 2 ++ l).length ≤ 65536 := by simp [encN]; omega
  refine (l01Check_any _ (encN (l.length : Int) 2 ++ l) w3 (unhide OB3).bytes hl2).mono ?_
  rintro e w3' ⟨rfl, hw'⟩
  have hw2 := hw'.symm
  clear hw'
  subst hw2
  rw [← unhide HSM]
  clear OB3
  go_wp2_with fail
  refine (l02Four_any (sumF l) w3 hs.1 hs.2).mono ?_
  rintro e w4 ⟨rfl, hw'⟩
  have F4 := hide (heap_new (o := .cells #[.int .u8 (sumF l / 16777216 % 256), .int .u8 (sumF l / 65536 % 256), .int .u8 (sumF l / 256 % 256), .int .u8 (sumF l % 256)] 5) (w := w3) (k := w3.heap.size) rfl)
  have H4 := hide ((heap_old (o := .cells #[.int .u8 (sumF l / 16777216 % 256), .int .u8 (sumF l / 65536 % 256), .int .u8 (sumF l / 256 % 256), .int .u8 (sumF l % 256)] 5) (w := w3) (k := w.heap.size) (by omega)).trans (unhide H3))
  have B4 := hide ((unhide B3).alloc (unhide B3).size (.cells #[.int .u8 (sumF l / 16777216 % 256), .int .u8 (sumF l / 65536 % 256), .int .u8 (sumF l / 256 % 256), .int .u8 (sumF l % 256)] 5))
  have HE4 : Hid (encN (sumF l) 4 = [sumF l / 16777216 % 256, sumF l / 65536 % 256, sumF l / 256 % 256, sumF l % 256]) := hide (by simp [encN])
  rw [← hw'] at F4 H4 B4
  clear hw' B3 H3
  have hz4 := (unhide B4).size
  go_wp2_with (first
    | (at_builtin; refine wpList_append_lies _ rfl _ _ _ rfl w.heap.size 5 i0 _ 1 1 Tryz.underlying79 hi hz0 hz1 hz2 rfl (by omega) (.slice (some ⟨w.heap.size, 0, none⟩) 2 2) 2 _ rfl (own_lit (unhide H4) (Nat.le_refl _) rfl (by unfold maxLen; omega)) ⟨w3.heap.size, 0, none⟩ 4 4 [_, _, _, _] rfl rfl (World.news_of_block (cs := #[_, _, _, _]) (t := 5) (fr := (0, 0)) (unhide F4)) (by simp [Value.oneCell']) (by omega) (by unfold maxLen; omega) (by omega) (by omega) _ rfl ?_; intro g5 cap5 w5 hown5 hgrow5 hat5 hlt5; have B5 := hide ((unhide B4).grown hgrow5 hz4 (fun r hr => by simp [Value.ownBlock] at hr; omega)); have O5 := hide hown5; have z5 := (unhide B5).size; clear hown5 hgrow5 hat5 hlt5)
    | (at_builtin; refine wpList_append_lies _ rfl _ _ _ rfl w.heap.size 5 i0 _ 1 1 Tryz.underlying79 hi hz0 hz1 hz2 rfl (by omega) (.slice (some ⟨g5, 0, none⟩) (2 + 4) cap5) (2 + 4) _ rfl (unhide O5) ⟨c, off, none⟩ l.length cap (l.map (Value.int .u8)) rfl (by simp) (news_bytes (fun i hi => ((unhide B5).cell (p := ⟨c, off + i, none⟩) hc).trans (unhide HC i hi))) (by simp [Value.oneCell']) h0 (by unfold maxLen; omega) (by omega) (by omega) _ rfl ?_; intro g6 cap6 w6 hown6 hgrow6 hat6 hlt6; have B6 := hide ((unhide B5).grown hgrow6 z5 (fun r hr => ((unhide O5).lt r hr).1)); have O6 := hide hown6; clear hown6 hgrow6 hat6 hlt6))
  go_ret
  refine ⟨.slice (some ⟨g6, 0, none⟩) (2 + 4 + l.length) cap6, rfl, ⟨?_, ?_⟩, unhide B6⟩
  · have h := unhide O6
    have hn : (frameL l).length = 2 + 4 + l.length := by simp [frameL, encN]; omega
    rw [hn]
    have e : (frameL l).map (Value.int .u8) = #[Value.int .u8 ((l.length : Int) / 256 % 256), .int .u8 ((l.length : Int) % 256)].toList ++ [.int .u8 (sumF l / 16777216 % 256), .int .u8 (sumF l / 65536 % 256), .int .u8 (sumF l / 256 % 256), .int .u8 (sumF l % 256)] ++ l.map (Value.int .u8) := by
      unfold frameL; rw [unhide HE2, unhide HE4]; simp
    rw [e]
    exact h
  · unfold frameL
    exact range_append (range_append (encN_range _ _) (encN_range _ _)) (unhide HR)

end Go.Proofs.YtfihhkhdigbmiaaGreatDoor
namespace Go.Proofs.YtfihhkhdigbmiaaGreatDoor
open Go.ChangeShapes Go.WideShapes Go.ChangeAt Go.RowKit fnExactCheck32
set_option linter.unusedVariables false

theorem infoS : (Tryz.prog.info? 9).map (fun i => (i.zero, i.size, i.bytes)) = some (some (.string ByteArray.empty), 1, 16) := by kernel_rfl
theorem toList_inj {a b : ByteArray} (h : a.toList = b.toList) : a = b := by
  rw [ByteArray.toList_eq, ByteArray.toList_eq] at h
  obtain ⟨x⟩ := a
  obtain ⟨y⟩ := b
  exact congrArg ByteArray.mk (Array.toList_inj.1 h)
theorem ownS_empty (w : World) (B g : Nat) (hg : w.heap.size = g) (hB : B ≤ w.heap.size) : OwnS B (w.alloc (.cells #[] 9)) (.slice (some ⟨g, 0, none⟩) 0 0) [] := by
  subst hg
  exact ⟨rfl, .inr ⟨w.heap.size, 0, #[], rfl, hB, heap_new rfl, Nat.le_refl _, by unfold maxLen; omega, rfl, rfl⟩⟩

set_option maxRecDepth 100000 in
set_option maxHeartbeats 1600000 in
theorem l02Frames_any (a : Option Addr) (cap : Nat) (l : List Int) (w : World) (h : RdV w w.heap.size (.slice a l.length cap) l) (hl : l.length ≤ 65536) :
    Calls Tryz.prog 51 #[.slice a l.length cap] w fun e w' => ∃ dv, e = .returned (.tuple #[dv, .int .i64 (frP l 0).2.1, .int .i64 (frP l 0).2.2]) ∧ OwnS w.heap.size w' dv ((frP l 0).1.map strOfNums) ∧ Below w.heap.size w w' := by
  obtain ⟨i0, hi, hz0, hz1, hz2⟩ := info_parts infoS
  obtain ⟨a', cap', hv, hq1, hq2, hc, hr⟩ := h
  cases hv
  have HC := hide hc
  have HR := hide hr
  clear hc hr
  go_enter Tryz.func51, Tryz.ntmps51
  go_wp2_with fail
  have B0 := hide ((Below.refl w.heap.size w).alloc (Nat.le_refl _) (.cells #[] 9))
  have O0 := hide (ownS_empty w w.heap.size w.heap.size rfl (Nat.le_refl _))
  generalize w.alloc (.cells #[] 9) = w0 at *
  go_loopw [5, 6] (fun o pv wr => ∃ (p : Nat) (ds : List (List Int)), pv = .int .i64 p ∧ FrAt l p ds ∧ OwnS w.heap.size wr o (ds.map strOfNums) ∧ Below w.heap.size w wr) (fun _ pv _ => l.length - (intOf pv).toNat)
  case atStart => exact ⟨0, [], rfl, FrAt.zero l, unhide O0, unhide B0⟩
  case round =>
    obtain ⟨p, ds, rfl, hat, hO, hb⟩ := hrel
    have HA := hide hat
    have HO := hide hO
    have HB := hide hb
    have hple := hat.2.1
    have hdle := hat.2.2.1
    clear hat hO hb
    by_cases hp : p < l.length
    · obtain ⟨c, off, rfl, hcl, hcell⟩ : ∃ c off, a = some ⟨c, off, none⟩ ∧ c < w.heap.size ∧ ∀ i, i < l.length → w.cell? ⟨c, off + i, none⟩ = some (.int .u8 (l.getD i 0)) := by
        rcases unhide HC with h0 | h0
        · omega
        · exact h0
      have HC0 := hide (fun (wx : World) (hbx : Below w.heap.size w wx) (i : Nat) (hi : i < l.length) => (hbx.cell (p := ⟨c, off + i, none⟩) hcl).trans (hcell i hi))
      have HC2 := hide (fun i (hi : i < l.length) => ((unhide HB).cell (p := ⟨c, off + i, none⟩) hcl).trans (hcell i hi))
      clear hcell HC
      have hRl : (l.drop p).length = l.length - p := List.length_drop ..
      have HRr := hide (range_drop p (unhide HR))
      have HSt := hide (fun h => (unhide HA).stop hp h)
      have HNx := hide (fun d h => (unhide HA).next (d := d) hp h)
      have p1 : (p : Int) < (l.length : Int) := by omega
      by_cases h6 : l.length - p < 6
      · have E := hide (show frStep (l.drop p) = (16, []) by unfold frStep; rw [if_pos (by omega)])
        have q6 : (l.length : Int) - (p : Int) < 6 := by omega
        go_wp2_with fail
        refine bodyPost_ret (v := .tuple #[_, .int .i64 p, .int .i64 16]) (by simp [results, Tryz.results51, go_sem]; rfl) rfl ?_
        have hst := unhide HSt (by rw [unhide E]; decide)
        rw [unhide E] at hst
        rw [hst]
        exact ⟨_, rfl, unhide HO, unhide HB⟩
      · have q6 : ¬ (l.length : Int) - (p : Int) < 6 := by omega
        have q7 : (p : Int) + 1 < (l.length : Int) := by omega
        have hs0 := unhide HC2 p (by omega)
        have hs1 := unhide HC2 (p + 1) (by omega)
        have hx0 := unhide HR p
        have hx1 := unhide HR (p + 1)
        have hN : dec ((l.drop p).take 2) = l.getD p 0 * 256 + l.getD (p + 1) 0 := by
          obtain ⟨x0, x1, x2, x3, x4, x5, r, he⟩ := six (show 6 ≤ (l.drop p).length by omega)
          have e0 : (l.drop p).getD 0 0 = l.getD (p + 0) 0 := getD_drop
          have e1 : (l.drop p).getD 1 0 = l.getD (p + 1) 0 := getD_drop
          rw [he] at e0 e1 ⊢
          rw [Nat.add_zero] at e0
          rw [← e0, ← e1]
          exact dec2 x0 x1
        have HN := hide hN
        clear hN
        generalize l.getD p 0 = x0 at *
        generalize l.getD (p + 1) 0 = x1 at *
        have m1 : IntKind.i64.wrap (x0 * 256) = x0 * 256 := wrapI _ (by omega) (by omega)
        have m2 : IntKind.i64.wrap (x0 * 256 + x1) = x0 * 256 + x1 := wrapI _ (by omega) (by omega)
        obtain ⟨N, hNe⟩ : ∃ N : Nat, x0 * 256 + x1 = (N : Int) := ⟨(x0 * 256 + x1).toNat, by omega⟩
        have hNlt : N < 65536 := by omega
        rw [hNe] at m2 HN
        go_wp2_with fail
        go_quiet (fail)
        have HO2 := hide ((unhide HO).drewN nq)
        have HB2 := hide (below_drewN (unhide HB) nq)
        have HC3 : Hid (∀ i, i < l.length → (wr.drewN nq).cell? ⟨c, off + i, none⟩ = some (.int .u8 (l.getD i 0))) := hide (fun i hi => unhide HC2 i hi)
        clear HO HB HC2 hs0 hs1 m1 m2 hx0 hx1 hNe
        generalize wr.drewN nq = wr2 at *
        by_cases hin : inB N 1 200 = true
        · obtain ⟨g0, g1⟩ := inB_iff.1 hin
          have z1 : ((N : Int) == 0) = false := by rw [beq_eq_false_iff_ne]; omega
          have z2 : ¬ (200 : Int) < (N : Int) := by omega
          by_cases hle : N ≤ l.length - p - 6
          · have z3 : ¬ (l.length : Int) - (p : Int) - 6 < (N : Int) := by omega
            have y1 : (p : Int) + 6 + (N : Int) ≤ (cap : Int) := by omega
            have y2 : (p : Int) + 6 + (N : Int) ≤ (l.length : Int) := by omega
            have y3 : (p : Int) + 6 ≤ (p : Int) + 6 + (N : Int) := by omega
            have y4 : (0 : Int) ≤ (p : Int) + 6 := by omega
            unfold maxLen at hq2
            obtain ⟨dd, hdd⟩ : ∃ dd, dd = ((l.drop p).drop 6).take N := ⟨_, rfl⟩
            obtain ⟨tt, htt⟩ : ∃ tt, tt = (l.drop p).take (6 + N) := ⟨_, rfl⟩
            have hddl : dd.length = N := by rw [hdd, List.length_take, List.length_drop]; omega
            have httl : tt.length = 6 + N := by rw [htt, List.length_take]; omega
            have HDg : Hid (∀ i, i < N → dd.getD i 0 = l.getD (p + 6 + i) 0) := hide (fun i hi => by rw [hdd, getD_take hi, getD_drop, getD_drop, Nat.add_assoc])
            have HTg : Hid (∀ i, i < 6 + N → tt.getD i 0 = l.getD (p + i) 0) := hide (fun i hi => by rw [htt, getD_take hi, getD_drop])
            have HDr : Hid (∀ i, 0 ≤ dd.getD i 0 ∧ dd.getD i 0 ≤ 255) := hide (by rw [hdd]; exact range_take N (range_drop 6 (unhide HRr)))
            have HTr : Hid (∀ i, 0 ≤ tt.getD i 0 ∧ tt.getD i 0 ≤ 255) := hide (by rw [htt]; exact range_take _ (unhide HRr))
            have HFi : Hid (frameL dd = tt ↔ sumF dd = dec (((l.drop p).drop 2).take 4)) := hide (by rw [hdd, htt]; exact frame_iff (unhide HRr) (by omega) (unhide HN) (by omega))
            have HFs : Hid (frStep (l.drop p) = if sumF dd = dec (((l.drop p).drop 2).take 4) then (0, dd) else (8, [])) := hide (by
              unfold frStep; rw [if_neg (by omega), unhide HN, if_neg (by rw [hin]; simp), Int.toNat_natCast, if_neg (by omega), hdd])
            clear hdd htt
            have HCT : Hid (∀ wx, Below w.heap.size w wx → (convert 79 9 (.slice (some ⟨c, off + p, none⟩) (6 + N) (cap - p))).run Tryz.prog wx = .ok (.string (strOfNums tt)) wx) := hide (fun wx hbx =>
              run_convert_bytes_arg wx 79 5 Tryz.underlying79 Tryz.underlying5 c (off + p) (6 + N) (cap - p) tt httl (fun i hi => by rw [Nat.add_assoc, unhide HC0 wx hbx (p + i) (by omega), unhide HTg i hi]) 9 Tryz.underlying9)
            have HCD : Hid (∀ wx, Below w.heap.size w wx → (convert 79 9 (.slice (some ⟨c, off + (p + 6), none⟩) N (cap - (p + 6)))).run Tryz.prog wx = .ok (.string (strOfNums dd)) wx) := hide (fun wx hbx =>
              run_convert_bytes_arg wx 79 5 Tryz.underlying79 Tryz.underlying5 c (off + (p + 6)) N (cap - (p + 6)) dd hddl (fun i hi => by rw [Nat.add_assoc, unhide HC0 wx hbx (p + 6 + i) (by omega), unhide HDg i hi]) 9 Tryz.underlying9)
            have HLF := hide (fun wx (hbx : Below w.heap.size w wx) => l02Frame_any c (off + (p + 6)) (cap - (p + 6)) dd wx (Nat.lt_of_lt_of_le hcl hbx.size) (fun i hi => by rw [Nat.add_assoc, unhide HC0 wx hbx (p + 6 + i) (by omega), unhide HDg i (by omega)]) (unhide HDr) (by omega) (by omega))
            rw [hddl] at HLF
            have y5 : (p : Int) ≤ (p : Int) + 6 + (N : Int) := by omega
            have y6 : ¬ cap = p := by omega
            have y11 : ¬ p = cap := by omega
            have hS0 := unhide HCT wr2 (unhide HB2)
            have hS1 := unhide HCT wr2.drew (below_drewN (unhide HB2) 1)
            go_wp2_with fail
            obtain ⟨M, hM⟩ : ∃ M : Nat, (p : Int) + 6 + (N : Int) = (M : Int) := ⟨p + 6 + N, by omega⟩
            have y7 : (M : Int) ≤ (cap : Int) := by omega
            have y8 : (p : Int) ≤ (M : Int) := by omega
            have y9 : p ≤ M := by omega
            have y10 : M ≤ cap := by omega
            have y12 : M - p = 6 + N := by omega
            have y13 : IntKind.i64.wrap (M : Int) = (M : Int) := wrapI _ (by omega) (by omega)
            have y15 : IntKind.i64.wrap ((p : Int) + 6) = (p : Int) + 6 := wrapI _ (by omega) (by omega)
            have y14 : IntKind.i64.wrap ((p : Int) + 6 + (N : Int)) = (M : Int) := by rw [hM]; exact y13
            clear y1 y2 y3 y4 y5 hq1 hq2 z2 z3 q6 q7 p1
            go_region_with ((go_at_call 74; refine (unhide HLF _ (below_drewN (unhide HB2) 1)).mono ?_; rintro e w4 ⟨v4, rfl, hO4, hb4⟩; have hcv4 := conv_own (P := Tryz.prog) 79 9 5 Tryz.underlying79 Tryz.underlying5 Tryz.underlying9 hO4.1; have hS4 := unhide HCT _ ((below_drewN (unhide HB2) 1).trans (hb4.mono (below_drewN (unhide HB2) 1).size))))
            all_goals
              have HB4 := hide ((below_drewN (unhide HB2) 1).trans (hb4.mono (below_drewN (unhide HB2) 1).size))
              have HO4 := hide ((unhide HO2).below (show Below wr2.heap.size wr2 w4 from (below_drewN (Below.refl _ wr2) 1).trans hb4))
              have hSI := hide (str_inj hO4.2 (unhide HTr))
              clear hO4 hb4 hcv4 hS4 hS0 hS1 HLF HCT HO2 HB2
              by_cases heq : frameL dd = tt
              · have hbq : ((strOfNums (frameL dd)).toList == (strOfNums tt).toList) = true := by rw [heq]; simp
                have hE : frStep (l.drop p) = (0, dd) := by rw [unhide HFs, if_pos ((unhide HFi).1 heq)]
                have HAn := hide (unhide HNx dd hE)
                rw [hddl] at HAn
                have hcd := unhide HCD w4 (unhide HB4)
                have hB4s := (unhide HB4).size
                clear hE heq
                generalize (strOfNums (frameL dd)).toList = s1 at *
                generalize (strOfNums tt).toList = s2 at *
                obtain rfl : s1 = s2 := by simpa using hbq
                clear hbq
                go_wp2_with (at_builtin; refine wpList_append_lies _ rfl _ _ _ rfl w.heap.size 9 i0 _ 1 16 Tryz.underlying43 hi hz0 hz1 hz2 rfl (by omega) u5 (ds.map strOfNums).length _ rfl (World.ownsRow.alloc (unhide HO4) _) ⟨w4.heap.size, 0, none⟩ 1 1 [_] rfl rfl (World.news_of_block (cs := #[_]) (t := 9) (fr := (0, 0)) (heap_alloc_new w4 _)) (by simp [Value.oneCell']) (by omega) (by unfold maxLen; simp; omega) (by simp; omega) (by simp; omega) _ rfl ?_; intro g5 cap5 w5 hown5 hgrow5 hat5 hlt5; have R5 := hide (And.intro hown5 (((unhide HB4).alloc hB4s _).grown hgrow5 (by simp; omega) (fun r hr => ((unhide HO4).lt r hr).1))); clear hown5 hgrow5 hat5 hlt5)
                all_goals try (exfalso; rename_i hbad; simp at hbad; done)
                refine ⟨⟨p + 6 + N, ds ++ [dd], by go_num, unhide HAn, ?_, (unhide R5).2⟩, ?_⟩
                · have hR5 := (unhide R5).1
                  rw [List.length_map] at hR5
                  unfold OwnS
                  rw [List.map_append, List.map_append, List.length_append, List.length_map]
                  exact hR5
                · simp [intOf]; omega
              · have hbq : ((strOfNums (frameL dd)).toList == (strOfNums tt).toList) = false := by rw [beq_eq_false_iff_ne]; exact fun e => heq ((unhide hSI).1 (toList_inj e))
                have hE : frStep (l.drop p) = (8, []) := by rw [unhide HFs, if_neg (fun e => heq ((unhide HFi).2 e))]
                have hst := hide (unhide HSt (by rw [hE]; decide))
                rw [hE] at hst
                clear hE heq
                generalize (strOfNums (frameL dd)).toList = s1 at *
                generalize (strOfNums tt).toList = s2 at *
                have hs12 : ¬ s1 = s2 := by simpa using hbq
                have hs13 : (!(s1 == s2)) = true := by rw [hbq]; rfl
                go_wp2_with fail
                all_goals try (exfalso; have hz : (!(s1 == s2)) = false := by assumption
                               rw [hs13] at hz; cases hz; done)
                refine bodyPost_ret (v := .tuple #[_, .int .i64 p, .int .i64 8]) (by simp [results, Tryz.results51, go_sem]; rfl) rfl ?_
                rw [unhide hst]
                exact ⟨_, rfl, unhide HO4, unhide HB4⟩
          · have E := hide (show frStep (l.drop p) = (16, []) by unfold frStep; rw [if_neg (by omega), unhide HN, if_neg (by rw [hin]; simp), if_pos (by omega)])
            have z3 : (l.length : Int) - (p : Int) - 6 < (N : Int) := by omega
            go_wp2_with fail
            refine bodyPost_ret (v := .tuple #[_, .int .i64 p, .int .i64 16]) (by simp [results, Tryz.results51, go_sem]; rfl) rfl ?_
            have hst := unhide HSt (by rw [unhide E]; decide)
            rw [unhide E] at hst
            rw [hst]
            exact ⟨_, rfl, unhide HO2, unhide HB2⟩
        · have E := hide (show frStep (l.drop p) = (8, []) by unfold frStep; rw [if_neg (by omega), unhide HN, if_pos (by simpa using hin)])
          have hN2 := inB_no (by simpa using hin)
          by_cases hN0 : N = 0
          · subst hN0
            go_wp2_with fail
            refine bodyPost_ret (v := .tuple #[_, .int .i64 p, .int .i64 8]) (by simp [results, Tryz.results51, go_sem]; rfl) rfl ?_
            have hst := unhide HSt (by rw [unhide E]; decide)
            rw [unhide E] at hst
            rw [hst]
            exact ⟨_, rfl, unhide HO2, unhide HB2⟩
          · have z1 : ((N : Int) == 0) = false := by rw [beq_eq_false_iff_ne]; omega
            have z2 : (200 : Int) < (N : Int) := by omega
            go_wp2_with fail
            refine bodyPost_ret (v := .tuple #[_, .int .i64 p, .int .i64 8]) (by simp [results, Tryz.results51, go_sem]; rfl) rfl ?_
            have hst := unhide HSt (by rw [unhide E]; decide)
            rw [unhide E] at hst
            rw [hst]
            exact ⟨_, rfl, unhide HO2, unhide HB2⟩
    · have HE := hide ((unhide HA).done hp)
      have p1 : ¬ (p : Int) < (l.length : Int) := by omega
      go_wp2_with fail
      refine bodyPost_ret (v := .tuple #[_, .int .i64 p, .int .i64 0]) (by simp [results, Tryz.results51, go_sem]; rfl) rfl ?_
      rw [unhide HE]
      exact ⟨_, rfl, unhide HO, unhide HB⟩

end Go.Proofs.YtfihhkhdigbmiaaGreatDoor
