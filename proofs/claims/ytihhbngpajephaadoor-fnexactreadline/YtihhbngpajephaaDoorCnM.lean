/- A console's line: texts of its own. (Written by py/cnl.py.) -/
import Derived.Test.YtihhbngpajephaaDoorCnH
import Derived.Test.YtihhbngpajephaaDoorScL
import Derived.Test.YtihhbngpajephaaDoorTk
namespace Go.Proofs.YtihhbngpajephaaDoor.Sha
open Go.ChangeShapes Go.WideShapes Go.ChangeAt Go.RowKit
set_option linter.unusedVariables false
set_option linter.unusedSimpArgs false

theorem Blk.c5y {w : World} {b : Nat} {a0 a1 a2 a3 a4 : Value} (h : Blk w b [a0, a1, a2, a3, a4]) : (w.cell? ⟨b, 0, none⟩ = some a0 ∧ w.cell? ⟨b, 1, none⟩ = some a1 ∧ w.cell? ⟨b, 2, none⟩ = some a2 ∧ w.cell? ⟨b, 3, none⟩ = some a3 ∧ w.cell? ⟨b, 4, none⟩ = some a4) ∧ (w.frozen? ⟨b, 0, none⟩ = false ∧ w.frozen? ⟨b, 1, none⟩ = false ∧ w.frozen? ⟨b, 2, none⟩ = false ∧ w.frozen? ⟨b, 3, none⟩ = false ∧ w.frozen? ⟨b, 4, none⟩ = false) :=
  ⟨⟨h.cell 0 rfl, h.cell 1 rfl, h.cell 2 rfl, h.cell 3 rfl, h.cell 4 rfl⟩, h.fro 0, h.fro 1, h.fro 2, h.fro 3, h.fro 4⟩
/-- What a request says. -/
def sayT (what word : ByteArray) : ByteArray := if word.size = 0 then what else what ++ ⟨#[32]⟩ ++ word
set_option maxRecDepth 100000 in
set_option maxHeartbeats 4000000 in
theorem reqText_any (r : Rq) (w : World) (hs : r.what.size ≤ 65536) (ht : r.word.size ≤ 65536) :
    Calls Tryd.prog 14 #[rqV r] w fun e w' => e = .returned (.string (sayT r.what r.word)) ∧ Below w.heap.size w w' := by
  obtain ⟨s, t, k, ss, q, y, v⟩ := r
  dsimp only at hs ht
  unfold rqV
  have HC := hide (fun wx => strClone_any s wx (by omega))
  have B0 := hide ((Below.refl w.heap.size w).alloc (Nat.le_refl _) (.cells #[.string s, .string t, .int .i64 k, .int .i64 ss, .int .i64 q, .string y, .string v] 33))
  have R0 := Blk.new w #[.string s, .string t, .int .i64 k, .int .i64 ss, .int .i64 q, .string y, .string v] 33 w.heap.size rfl
  obtain ⟨⟨c0, c1, _⟩, _⟩ := Blk.c7 R0
  clear R0
  have HO := hide (show sayT s t = if t.size = 0 then s else s ++ ⟨#[32]⟩ ++ t from rfl)
  generalize sayT s t = u at *
  go_enter Tryd.func14, Tryd.ntmps14
  go_upto_region 1 with fail
  generalize w.alloc (.cells #[.string s, .string t, .int .i64 k, .int .i64 ss, .int .i64 q, .string y, .string v] 33) = w0 at *
  by_cases h : t.size = 0
  · have e := (unhide HO).trans (if_pos h)
    subst e
    obtain rfl : t = ⟨#[]⟩ := by
      cases t
      rename_i a
      have : a.size = 0 := h
      obtain rfl := Array.eq_empty_of_size_eq_zero this
      rfl
    clear HO h ht
    go_wp2_with fail
    refine (unhide HC _).mono ?_
    rintro e w2 ⟨rfl, hb⟩
    have B2 := hide ((unhide B0).trans (hb.mono (unhide B0).size))
    clear hb c0 c1
    go_wp2_with fail
    go_ret
    exact ⟨rfl, unhide B2⟩
  · have e := (unhide HO).trans (if_neg h)
    subst e
    have hq : (t.toList == []) = false := by
      rw [beq_eq_false_iff_ne]
      intro e
      rw [ByteArray.toList_eq] at e
      have : t.data.toList.length = 0 := by rw [e]; rfl
      exact h (by simpa using this)
    have h1 : s.size + 1 ≤ 9223372036854775807 := by omega
    have h2 : s.size + 1 + t.size ≤ 9223372036854775807 := by omega
    clear HO h HC
    go_wp2_with fail
    go_ret
    exact ⟨rfl, unhide B0⟩
set_option maxRecDepth 100000 in
set_option maxHeartbeats 4000000 in
theorem copied_any (k s q : Int) (y v : ByteArray) (w : World) (hy : y.size ≤ 1048576) (hv : v.size ≤ 1048576) :
    Calls Tryd.prog 13 #[.agg #[.int .i64 k, .int .i64 s, .int .i64 q, .string y, .string v]] w fun e w' => e = .returned (.agg #[.int .i64 k, .int .i64 s, .int .i64 q, .string y, .string v]) ∧ Below w.heap.size w w' := by
  have HC := hide (fun wx => strClone_any y wx hy)
  have HD := hide (fun wx => strClone_any v wx hv)
  have B0 := hide (((Below.refl w.heap.size w).alloc (Nat.le_refl _) (.cells #[.int .i64 k, .int .i64 s, .int .i64 q, .string y, .string v] 23)).alloc (by simp) (.cells #[.int .i64 0, .int .i64 0, .int .i64 0, .string ⟨#[]⟩, .string ⟨#[]⟩] 23))
  have C0 := hide ((Blk.new w #[.int .i64 k, .int .i64 s, .int .i64 q, .string y, .string v] 23 w.heap.size rfl).alloc (.cells #[.int .i64 0, .int .i64 0, .int .i64 0, .string ⟨#[]⟩, .string ⟨#[]⟩] 23))
  have R0 := hide (Blk.new (w.alloc (.cells #[.int .i64 k, .int .i64 s, .int .i64 q, .string y, .string v] 23)) #[.int .i64 0, .int .i64 0, .int .i64 0, .string ⟨#[]⟩, .string ⟨#[]⟩] 23 (w.heap.size + 1) (by simp))
  clear hy hv
  go_enter Tryd.func13, Tryd.ntmps13
  go_upto_region 1 with fail
  generalize (w.alloc (.cells #[.int .i64 k, .int .i64 s, .int .i64 q, .string y, .string v] 23)).alloc (.cells #[.int .i64 0, .int .i64 0, .int .i64 0, .string ⟨#[]⟩, .string ⟨#[]⟩] 23) = w0 at *
  have hd : Below w0.heap.size w0 w0.drew := below_drewN (Below.refl w0.heap.size w0) 1
  have BD := hide ((unhide B0).trans (hd.mono (unhide B0).size))
  have CD := hide ((unhide C0).below hd)
  have RD := hide ((unhide R0).below hd)
  clear hd B0 C0 R0
  obtain ⟨⟨n0, n1, n2, n3, n4⟩, _⟩ := Blk.c5y (unhide CD)
  refine wp_region_held_drew (S := (fun wx => wx.cell? ⟨w.heap.size, 0, none⟩ = some (.int .i64 k) ∧ wx.cell? ⟨w.heap.size, 1, none⟩ = some (.int .i64 s) ∧ wx.cell? ⟨w.heap.size, 2, none⟩ = some (.int .i64 q) ∧ wx.cell? ⟨w.heap.size, 3, none⟩ = some (.string y) ∧ wx.cell? ⟨w.heap.size, 4, none⟩ = some (.string v))) (by kernel_rfl) ?_ (fun hHeld => ?_)
  · exact ⟨n0, n1, n2, n3, n4⟩
  generalize w0.drew = wd at *
  refine tkH 0 rfl ?_
  refine tkH 1 rfl ?_
  refine tkH 2 rfl ?_
  refine tkH 3 rfl ?_
  refine tkH 4 rfl ?_
  refine tkH 5 rfl ?_
  refine tkH 6 rfl ?_
  refine tkH 7 rfl ?_
  refine tkH 9 rfl ?_
  refine tkH 10 rfl ?_
  refine wpAnyH_ready (rs := [8]) (by kernel_rfl) (by simp) ?_
  refine AllReadyH.cons (o := _) rfl (fun K hK => ?_) AllReadyH.nil
  go_simp
  refine (unhide HC _).mono ?_
  rintro e w2 ⟨rfl, hb⟩
  have CD := hide ((unhide CD).below hb)
  have RD := hide ((unhide RD).below hb)
  have BD := hide ((unhide BD).trans (hb.mono (unhide BD).size))
  clear hb
  go_wp2_with fail
  refine hK.out _ _ ?_ (fun hHeld => ?_)
  · obtain ⟨⟨n0, n1, n2, n3, n4⟩, _⟩ := Blk.c5y (unhide CD)
    exact ⟨n0, n1, n2, n3, n4⟩
  clear hK K
  (try simp only [Act.put, List.getElem_toArray, List.getElem_cons_succ, List.getElem_cons_zero, List.setIfInBounds_toArray, List.set_cons_zero, List.set_cons_succ])
  refine wpAnyH_ready (rs := [11]) (by kernel_rfl) (by simp) ?_
  refine AllReadyH.cons (o := _) rfl (fun K hK => ?_) AllReadyH.nil
  go_simp
  refine (unhide HD _).mono ?_
  rintro e w3 ⟨rfl, hb⟩
  have CD := hide ((unhide CD).below hb)
  have RD := hide ((unhide RD).below hb)
  have BD := hide ((unhide BD).trans (hb.mono (unhide BD).size))
  clear hb
  go_wp2_with fail
  refine hK.out _ _ ?_ (fun hHeld => ?_)
  · obtain ⟨⟨n0, n1, n2, n3, n4⟩, _⟩ := Blk.c5y (unhide CD)
    exact ⟨n0, n1, n2, n3, n4⟩
  clear hK K
  (try simp only [Act.put, List.getElem_toArray, List.getElem_cons_succ, List.getElem_cons_zero, List.setIfInBounds_toArray, List.set_cons_zero, List.set_cons_succ])
  refine tkH 12 rfl ?_
  have hT := (((((Touch.refl (fun x => x = w.heap.size + 1) w3).setCell ⟨w.heap.size + 1, 0, none⟩ (.int .i64 k) (fun _ => rfl)).setCell ⟨w.heap.size + 1, 1, none⟩ (.int .i64 s) (fun _ => rfl)).setCell ⟨w.heap.size + 1, 2, none⟩ (.int .i64 q) (fun _ => rfl)).setCell ⟨w.heap.size + 1, 3, none⟩ (.string y) (fun _ => rfl)).setCell ⟨w.heap.size + 1, 4, none⟩ (.string v) (fun _ => rfl)
  have HY := hide ((((((unhide RD).set 0 (.int .i64 k) (by simp)).set 1 (.int .i64 s) (by simp)).set 2 (.int .i64 q) (by simp)).set 3 (.string y) (by simp)).set 4 (.string v) (by simp))
  have HK := hide ((unhide BD).trans (hT.below (unhide BD).size (fun x hx e => by omega)))
  have hCT := (unhide CD).kept hT (fun e => by omega)
  obtain ⟨⟨x0, x1, x2, x3, x4⟩, g0, g1, g2, g3, g4⟩ := Blk.c5y (unhide RD)
  clear n0 n1 n2 n3 n4 hT
  refine wpAnyH_ready (rs := [13]) (by kernel_rfl) (by simp) ?_
  refine AllReadyH.cons (o := _) rfl (fun K hK => ?_) AllReadyH.nil
  go_simp
  refine hK.out _ _ ?_ (fun hHeld => ?_)
  · obtain ⟨⟨n0, n1, n2, n3, n4⟩, _⟩ := Blk.c5y hCT
    exact ⟨n0, n1, n2, n3, n4⟩
  clear hK K hCT
  (try simp only [Act.put, List.getElem_toArray, List.getElem_cons_succ, List.getElem_cons_zero, List.setIfInBounds_toArray, List.set_cons_zero, List.set_cons_succ])
  refine wpAnyH_done (by kernel_rfl) ?_ _
  clear x0 x1 x2 x3 x4 g0 g1 g2 g3 g4 hHeld
  go_wp2_with fail
  obtain ⟨⟨z0, z1, z2, z3, z4⟩, _⟩ := Blk.c5y (unhide HY)
  refine bodyPost_ret (v := .agg #[.int .i64 k, .int .i64 s, .int .i64 q, .string y, .string v]) (by simp [results, Tryd.results13, go_sem, z0, z1, z2, z3, z4]) rfl ?_
  exact ⟨rfl, unhide HK⟩
end Go.Proofs.YtihhbngpajephaaDoor.Sha
