/- impl.ReadStatement: statementWith; strconv.Atoi of any text; strings.Split at a blank. -/
import Derived.Test.YtiiaehajcomfaaaDoorShL
import Derived.Lib.AtoiErrMem
import Derived.Test.YtiiaehajcomfaaaDoorStmT
import Derived.Test.YtiiaehajcomfaaaDoorReadHash
import Derived.Test.YtiiaehajcomfaaaDoorCol
namespace Go.Proofs.YtiiaehajcomfaaaDoor.Sha
open Go.ChangeShapes Go.WideShapes Go.ChangeAt Go.RowKit
set_option linter.unusedVariables false
set_option linter.unusedSimpArgs false

/-- What is asked of the world: the library's variables hold what their types allow. -/
def isE (v : Value) : Prop := v = .nilIface ∨ ∃ te pe, v = .iface te pe
structure Errs (w : World) : Prop where
  syn : ∃ ev, w.cell? ⟨3, 0, none⟩ = some ev ∧ isE ev
  rng : ∃ ev, w.cell? ⟨4, 0, none⟩ = some ev ∧ isE ev
  mxl : ∃ m, w.cell? ⟨5, 0, none⟩ = some (.int .i64 m)
theorem Errs.below {w w' : World} (h : Errs w) (hb : Below w.heap.size w w') : Errs w' := by
  obtain ⟨⟨a, ha, ha2⟩, ⟨b, hb1, hb2⟩, ⟨m, hm⟩⟩ := h
  exact ⟨⟨a, (hb.cell (p := ⟨3, 0, none⟩) (World.block_lt_of_cell? _ _ ha)).trans ha, ha2⟩, ⟨b, (hb.cell (p := ⟨4, 0, none⟩) (World.block_lt_of_cell? _ _ hb1)).trans hb1, hb2⟩, ⟨m, (hb.cell (p := ⟨5, 0, none⟩) (World.block_lt_of_cell? _ _ hm)).trans hm⟩⟩
/-- The number that strconv.Atoi answers. -/
def atoiV (s : ByteArray) : Int := match Lib.atoiAll s.data.toList with
  | .ok v => v
  | .«syntax» => 0
  | .range => Lib.atoiSat s.data.toList
theorem below_bytesW (w : World) (t : ByteArray) : Below w.heap.size w (Lib.bytesWorld w 5 t) := Lib.bytesWorld_below w 5 t
set_option maxHeartbeats 1000000 in
theorem atoi_any (s : ByteArray) (w : World) (hs : s.size ≤ 1048576) (h : Errs w) :
    Calls Tryd.prog 55 #[.string s] w fun e w' => (∃ v, e = .returned (.tuple #[.int .i64 (atoiV s), v])) ∧ Below w.heap.size w w' := by
  obtain ⟨⟨a, ha, ha2⟩, ⟨b, hb1, hb2⟩, _⟩ := h
  cases hE : Lib.atoiAll s.data.toList with
  | ok v =>
    have e : atoiV s = v := by unfold atoiV; rw [hE]
    refine (Tryd.strconv_Atoi_ok s (by omega) v hE w).mono ?_
    rintro e w' ⟨rfl, hw⟩
    refine ⟨⟨_, by rw [e]⟩, ?_⟩
    rcases hw with rfl | ⟨t, rfl⟩
    · exact Below.refl _ _
    · exact below_bytesW w t
  | «syntax» =>
    have e : atoiV s = 0 := by unfold atoiV; rw [hE]
    refine (Tryd.strconv_Atoi_syntax s (by omega) hE a w ha ha2).mono ?_
    rintro e w' ⟨N, rfl, _, _, hb⟩
    exact ⟨⟨_, by rw [e]⟩, hb⟩
  | range =>
    have e : atoiV s = Lib.atoiSat s.data.toList := by unfold atoiV; rw [hE]
    refine (Tryd.strconv_Atoi_range s (by omega) hE b w hb1 hb2).mono ?_
    rintro e w' ⟨N, rfl, _, _, hb⟩
    exact ⟨⟨_, by rw [e]⟩, hb⟩
/-- What ReadHash answers. -/
def rdT (s : ByteArray) : ByteArray × Int := if 65536 < s.size then (⟨#[]⟩, 2) else if s.size = 64 ∧ fnExactReadHash.allB s = true then (strOfNums (fnExactReadHash.readL s 32), 0) else (⟨#[]⟩, 3)
theorem readV_rdT (s : ByteArray) : fnExactReadHash.readV s = .tuple #[.string (rdT s).1, .int .i64 (rdT s).2] := by
  unfold rdT
  by_cases h1 : 65536 < s.size
  · rw [fnExactReadHash.readV_long h1, if_pos h1]
  · rw [if_neg h1]
    by_cases h2 : s.size = 64
    · cases h3 : fnExactReadHash.allB s
      · rw [fnExactReadHash.readV_bad h2 h3, if_neg (by simp)]
      · rw [fnExactReadHash.readV_yes h2 h3, if_pos ⟨h2, rfl⟩]
    · rw [fnExactReadHash.readV_no h1 h2, if_neg (by rintro ⟨h, _⟩; exact h2 h)]
theorem rdT_size (s : ByteArray) : (rdT s).1.size ≤ 32 := by
  unfold rdT
  split
  · decide
  · split
    · rw [strOfNums_size, fnExactReadHash.readL_len]; exact Nat.le_refl _
    · decide
/-- The statement that words are. -/
def swOut (l : List ByteArray) : Int × ByteArray × ByteArray := if l.length = 6 then (atoiV (l.getD 1 ByteArray.empty), (rdT (l.getD 3 ByteArray.empty)).1, (rdT (l.getD 5 ByteArray.empty)).1) else (0, ⟨#[]⟩, ⟨#[]⟩)
set_option maxRecDepth 100000 in
set_option maxHeartbeats 2000000 in
theorem statementWith_any (l : List ByteArray) (b cap : Nat) (w : World) (hs : SA w b 0 cap l) (hz : ∀ i, i < l.length → (l.getD i ByteArray.empty).size ≤ 1048576) (h : Errs w) :
    Calls Tryd.prog 31 #[.slice (some ⟨b, 0, none⟩) l.length cap] w fun e w' => e = .returned (.agg #[.int .i64 (swOut l).1, .string (swOut l).2.1, .string (swOut l).2.2]) ∧ Below w.heap.size w w' := by
  have hle : l.length ≤ 9223372036854775807 := by have := hs.le; have := hs.mx; unfold maxLen at this; omega
  have B0 := hide ((Below.refl w.heap.size w).alloc (Nat.le_refl _) (.cells #[.int .i64 0, .string ⟨#[]⟩, .string ⟨#[]⟩] 27))
  have X0 := hide (Blk.new w #[.int .i64 0, .string ⟨#[]⟩, .string ⟨#[]⟩] 27 w.heap.size rfl)
  by_cases h6 : l.length = 6
  case neg =>
    have HO : Hid (swOut l = (0, ⟨#[]⟩, ⟨#[]⟩)) := hide (by unfold swOut; rw [if_neg h6])
    have h6b : ((l.length : Int) == 6) = false := by rw [beq_eq_false_iff_ne]; omega
    have h6c : ((l.length : Int) != 6) = true := by rw [bne_iff_ne]; omega
    clear hs hz h h6
    generalize swOut l = out at *
    go_enter Tryd.func31, Tryd.ntmps31
    go_wp2_with fail
    have e0 := (unhide X0).cell 0 rfl
    have e1 := (unhide X0).cell 1 rfl
    have e2 := (unhide X0).cell 2 rfl
    refine bodyPost_ret (v := .agg #[.int .i64 0, .string ⟨#[]⟩, .string ⟨#[]⟩]) (by simp [results, Tryd.results31, go_sem]) rfl ⟨by rw [unhide HO], unhide B0⟩
  have HO : Hid (swOut l = (atoiV (l.getD 1 ByteArray.empty), (rdT (l.getD 3 ByteArray.empty)).1, (rdT (l.getD 5 ByteArray.empty)).1)) := hide (by unfold swOut; rw [if_pos h6])
  have h6b : ((l.length : Int) == 6) = true := by rw [beq_iff_eq]; omega
  have h6c : ((l.length : Int) != 6) = false := by rw [bne_eq_false_iff_eq]; omega
  have hi6 : (l.length : Int) = 6 := by omega
  have k1 : (1 : Int) < (l.length : Int) := by omega
  have k3 : (3 : Int) < (l.length : Int) := by omega
  have k5 : (5 : Int) < (l.length : Int) := by omega
  have z1 := hz 1 (by omega)
  have z3 := hz 3 (by omega)
  have z5 := hz 5 (by omega)
  have HS := hide (fun wx (hx : Below w.heap.size w wx) (i : Nat) (hi : i < l.length) => (hs.below hx).cell i hi)
  have HA := hide (fun wx hx => atoi_any (l.getD 1 ByteArray.empty) wx z1 hx)
  have H3 := hide (fun wx => fnExactReadHash.implRead_any (l.getD 3 ByteArray.empty) wx (by unfold maxLen; omega))
  have H5 := hide (fun wx => fnExactReadHash.implRead_any (l.getD 5 ByteArray.empty) wx (by unfold maxLen; omega))
  rw [readV_rdT] at H3 H5
  have HE := hide h
  have hl6 : 6 ≤ l.length := by omega
  clear hs hz h h6 hi6 z1 z3 z5
  generalize swOut l = out at *
  have s1 := unhide HS _ (unhide B0) 1 (by omega)
  generalize hw1 : l.getD 1 ByteArray.empty = t1 at *
  generalize hw3 : l.getD 3 ByteArray.empty = t3 at *
  generalize hw5 : l.getD 5 ByteArray.empty = t5 at *
  generalize atoiV t1 = zv at *
  generalize rdT t3 = r3 at *
  generalize rdT t5 = r5 at *
  obtain ⟨r3a, r3b⟩ := r3
  obtain ⟨r5a, r5b⟩ := r5
  dsimp only at *
  have HW3 := hide hw3
  have HW5 := hide hw5
  clear hw1 hw3 hw5
  rw [Nat.zero_add] at s1
  go_enter Tryd.func31, Tryd.ntmps31
  go_wp2_with fail
  refine (unhide HA _ ((unhide HE).below (unhide B0))).mono ?_
  rintro e w1 ⟨⟨v, rfl⟩, hb1⟩
  have B1 := hide ((unhide B0).trans (hb1.mono (unhide B0).size))
  have X1 := hide ((unhide X0).below hb1)
  clear hb1 B0 X0 s1 HA
  have s3 := unhide HS _ (unhide B1) 3 (by omega)
  rw [Nat.zero_add, unhide HW3] at s3
  go_wp2_with fail
  refine (unhide H3 w1).mono ?_
  rintro e w2 ⟨rfl, hb2⟩
  have B2 := hide ((unhide B1).trans (hb2.mono (unhide B1).size))
  have X2 := hide ((unhide X1).below hb2)
  clear hb2 B1 X1 s3 H3
  have s5 := unhide HS _ (unhide B2) 5 (by omega)
  rw [Nat.zero_add, unhide HW5] at s5
  go_wp2_with fail
  refine (unhide H5 w2).mono ?_
  rintro e w3 ⟨rfl, hb3⟩
  have B3 := hide ((unhide B2).trans (hb3.mono (unhide B2).size))
  have X3 := hide ((unhide X2).below hb3)
  clear hb3 B2 X2 s5 H5
  have c0 := (unhide X3).cell 0 rfl
  have c1 := (unhide X3).cell 1 rfl
  have c2 := (unhide X3).cell 2 rfl
  have q0 := (unhide X3).fro 0
  have q1 := (unhide X3).fro 1
  have q2 := (unhide X3).fro 2
  go_wp2_with fail
  have F := ((((unhide X3).set 0 (.int .i64 zv) (by simp)).set 1 (.string r3a) (by simp)).set 2 (.string r5a) (by simp))
  have e0 := F.cell 0 rfl
  have e1 := F.cell 1 rfl
  have e2 := F.cell 2 rfl
  refine bodyPost_ret (v := .agg #[.int .i64 zv, .string r3a, .string r5a]) (by simp [results, Tryd.results31, go_sem, e0, e1, e2]) rfl ⟨by rw [unhide HO], ?_⟩
  exact ((((unhide B3).setCell (p := ⟨w.heap.size, 0, none⟩) (Nat.le_refl _) _).setCell (p := ⟨w.heap.size, 1, none⟩) (Nat.le_refl _) _).setCell (p := ⟨w.heap.size, 2, none⟩) (Nat.le_refl _) _)
end Go.Proofs.YtiiaehajcomfaaaDoor.Sha
