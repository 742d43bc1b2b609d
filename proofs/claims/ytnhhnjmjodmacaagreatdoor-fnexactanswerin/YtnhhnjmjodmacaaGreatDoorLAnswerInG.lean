/- For every list of commands and every command that can be read, laws.FnExactAnswerIn returns true, both read as they did, and so do the two tables of words, which the card ties to the program's text. Condition: the listed tables start as the program's text lays them. (Written by py/lai.py.) -/
import Derived.Test.YtnhhnjmjodmacaaGreatDoorQan45
import Derived.Test.YtnhhnjmjodmacaaGreatDoorQan46
import Derived.Test.YtnhhnjmjodmacaaGreatDoorQan01
import Derived.Test.YtnhhnjmjodmacaaGreatDoorQan00
import Derived.Test.YtnhhnjmjodmacaaGreatDoorQan25
import Derived.Test.YtnhhnjmjodmacaaGreatDoorCards
import Derived.Test.YtnhhnjmjodmacaaGreatDoorTie
import Derived.Deep.DeepCutAuto
namespace Go.Proofs.YtnhhnjmjodmacaaGreatDoor.fnExactAnswerIn
open Go.ChangeShapes Go.WideShapes Go.ChangeAt Go.RowKit Go.Deep Sha
open Go.ChangeMaps (open_string shut_string)
set_option linter.unusedVariables false
set_option linter.unusedSimpArgs false
set_option maxRecDepth 100000 in
set_option maxHeartbeats 4000000 in
theorem walk (v : Value) (l : List Cm) (k s q : Int) (key val : ByteArray) (w : World) (hf : Css w v l) (hz : ∀ i, i < l.length → (Lit.int .i64 (l.getD i default).kd).wf = true ∧ (Lit.int .i64 (l.getD i default).ss).wf = true ∧ (Lit.int .i64 (l.getD i default).sq).wf = true ∧ (l.getD i default).ky.size ≤ maxLen ∧ (l.getD i default).vl.size ≤ maxLen) (wk : (Lit.int .i64 k).wf = true) (ws : (Lit.int .i64 s).wf = true) (wq : (Lit.int .i64 q).wf = true) (hk : key.size ≤ maxLen) (hv : val.size ≤ maxLen) (hF : First w) (hT : Table w) :
    Calls Tryz.prog 5 #[v, .agg #[.int .i64 k, .int .i64 s, .int .i64 q, .string key, .string val]] w fun e w' => e = .returned (.bool true) ∧ Below w.heap.size w w' := by
  have HT := hide (show Tab w from ⟨hF, hT⟩)
  have HF := hide hf
  have HZ := hide (fun i hi => (hz i hi).2.2.2)
  have HK := hide (And.intro hk hv)
  clear hf hz wk ws wq hk hv hF hT
  have B0 := hide ((Below.refl w.heap.size w).alloc (Nat.le_refl _) (.cells #[.int .i64 k, .int .i64 s, .int .i64 q, .string key, .string val] 30))
  have X0 := hide (Blk.new w #[.int .i64 k, .int .i64 s, .int .i64 q, .string key, .string val] 30 w.heap.size rfl)
  go_enter Tryz.func5, Tryz.ntmps5
  go_wp2_with fail
  generalize w.alloc (.cells #[.int .i64 k, .int .i64 s, .int .i64 q, .string key, .string val] 30) = w0 at *
  refine (szCommandS_any 1048576 (by omega) (by omega) v l w0 ((unhide HF).below (unhide B0)) (unhide HZ)).mono ?_
  rintro e w1 ⟨rfl, hb1⟩
  have K1 := hide ((unhide B0).trans (hb1.mono (unhide B0).size))
  have X1 := hide ((unhide X0).below hb1)
  have hw1 : w.heap.size < w1.heap.size := (unhide X1).1
  clear hb1 B0 X0
  rcases kcszR_cases 1048576 l with hr | ⟨hr, hrl⟩
  · rw [hr]
    go_wp2_with fail
    go_ret
    exact ⟨rfl, unhide K1⟩
  have HS := hide (kcsmall_of 1048576 (by omega) l hr).1
  generalize kcszR 1048576 l = r at *
  have hr2 : ¬ r < 0 := by omega
  have x0 := (unhide X1).cell 0 rfl
  have x1 := (unhide X1).cell 1 rfl
  have x2 := (unhide X1).cell 2 rfl
  have x3 := (unhide X1).cell 3 rfl
  have x4 := (unhide X1).cell 4 rfl
  go_wp2_with fail
  refine (szCm_any ⟨k, s, q, key, val⟩ r w1 hr hrl (unhide HK).1 (unhide HK).2).mono ?_
  rintro e w2 ⟨rfl, hb⟩
  have K2 := hide ((unhide K1).trans (hb.mono (unhide K1).size))
  have X2 := hide ((unhide X1).below hb)
  have hw2 : w.heap.size < w2.heap.size := (unhide X2).1
  clear hb K1 X1 x0 x1 x2 x3 x4 hw1
  generalize kcszF ⟨k, s, q, key, val⟩ r = r3 at *
  by_cases h3 : r3 < 0
  · go_wp2_with fail
    go_ret
    exact ⟨rfl, unhide K2⟩
  have HIM := hide (fun wx vx (hx : Css wx vx l) ht => implAnswerIn_any vx l ⟨k, s, q, key, val⟩ wx hx (unhide HS) (unhide HZ) (unhide HK) ht)
  have HSP := hide (fun wx vx (hx : Css wx vx l) => specAnswerIn_any vx l ⟨k, s, q, key, val⟩ wx hx (unhide HS) (unhide HZ) (unhide HK))
  generalize anO l ⟨k, s, q, key, val⟩ = out at *
  obtain ⟨⟨o1, o2, o3⟩, o4, o5⟩ := out
  dsimp only at HIM HSP
  have x0 := (unhide X2).cell 0 rfl
  have x1 := (unhide X2).cell 1 rfl
  have x2 := (unhide X2).cell 2 rfl
  have x3 := (unhide X2).cell 3 rfl
  have x4 := (unhide X2).cell 4 rfl
  go_upto_region 8 with fail
  go_cut [6, 7, 8] (fun s6 s7 s8 wx => ∃ rb, s6 = .pointer (some ⟨rb, 0, none⟩) ∧ s7 = .int .i64 o4 ∧ s8 = .int .i64 o5 ∧ Hid (Below w2.heap.size w2 wx ∧ w2.heap.size ≤ rb ∧ Blk wx rb [.int .i64 o1, .int .i64 o2, .string o3]))
  case first =>
    refine wp_region_noPanic ?_
    refine wp_region_held_drew (S := (fun wx => wx.cell? ⟨w.heap.size, 0, none⟩ = some (.int .i64 k) ∧ wx.cell? ⟨w.heap.size, 1, none⟩ = some (.int .i64 s) ∧ wx.cell? ⟨w.heap.size, 2, none⟩ = some (.int .i64 q) ∧ wx.cell? ⟨w.heap.size, 3, none⟩ = some (.string key) ∧ wx.cell? ⟨w.heap.size, 4, none⟩ = some (.string val))) (by kernel_rfl) ?_ (fun hHeld => ?_)
    · exact ⟨x0, x1, x2, x3, x4⟩
    refine tkH 0 rfl ?_
    refine tkH 2 rfl ?_
    have HBx := hide (below_drewN (Below.refl w2.heap.size w2) 1)
    change Hid (Below w2.heap.size w2 w2.drew) at HBx
    have hdr := unhide HBx
    clear hdr
    generalize w2.drew = y0 at *
    refine wpAnyH_ready (rs := [1, 9]) (by kernel_rfl) (by simp) ?_
    refine AllReadyH.cons (o := _) rfl (fun K hK => ?_) (AllReadyH.cons (o := _) rfl (fun K hK => ?_) AllReadyH.nil)
    · go_simp
      refine (toCommandS_any v l y0 ((unhide HF).below ((unhide K2).trans ((unhide HBx).mono (unhide K2).size))) (unhide HS)).mono ?_
      rintro e y1 ⟨rfl, hO, _, hbs⟩
      obtain ⟨gv, hgv⟩ : ∃ gv, gv = (⟨y0.heap.size, 0, none⟩ : Addr) := ⟨_, rfl⟩
      rw [← hgv] at hO ⊢
      have OC := hide hO.read
      clear hO hgv
      replace HBx := hide ((unhide HBx).trans (hbs.mono (unhide HBx).size))
      clear hbs
      go_wp2_with fail
      refine hK.out _ _ ?_ (fun hHeld => ?_)
      · exact ⟨((unhide HBx).cell (p := ⟨w.heap.size, 0, none⟩) hw2).trans x0, ((unhide HBx).cell (p := ⟨w.heap.size, 1, none⟩) hw2).trans x1, ((unhide HBx).cell (p := ⟨w.heap.size, 2, none⟩) hw2).trans x2, ((unhide HBx).cell (p := ⟨w.heap.size, 3, none⟩) hw2).trans x3, ((unhide HBx).cell (p := ⟨w.heap.size, 4, none⟩) hw2).trans x4⟩
      clear hK K
      (try simp only [Act.put, List.getElem_toArray, List.getElem_cons_succ, List.getElem_cons_zero, List.setIfInBounds_toArray, List.set_cons_zero, List.set_cons_succ])
      refine wpAnyH_ready (rs := [3, 9]) (by kernel_rfl) (by simp) ?_
      refine AllReadyH.cons (o := _) rfl (fun K hK => ?_) (AllReadyH.cons (o := _) rfl (fun K hK => ?_) AllReadyH.nil)
      · go_simp
        refine (toCm_any ⟨k, s, q, key, val⟩ y1).mono ?_
        rintro e y2 ⟨rfl, hbs⟩
        replace OC := hide ((unhide OC).below hbs)
        replace HBx := hide ((unhide HBx).trans (hbs.mono (unhide HBx).size))
        clear hbs
        go_wp2_with fail
        refine hK.out _ _ ?_ (fun hHeld => ?_)
        · exact ⟨((unhide HBx).cell (p := ⟨w.heap.size, 0, none⟩) hw2).trans x0, ((unhide HBx).cell (p := ⟨w.heap.size, 1, none⟩) hw2).trans x1, ((unhide HBx).cell (p := ⟨w.heap.size, 2, none⟩) hw2).trans x2, ((unhide HBx).cell (p := ⟨w.heap.size, 3, none⟩) hw2).trans x3, ((unhide HBx).cell (p := ⟨w.heap.size, 4, none⟩) hw2).trans x4⟩
        clear hK K
        (try simp only [Act.put, List.getElem_toArray, List.getElem_cons_succ, List.getElem_cons_zero, List.setIfInBounds_toArray, List.set_cons_zero, List.set_cons_succ])
        refine wpAnyH_ready (rs := [4, 9]) (by kernel_rfl) (by simp) ?_
        refine AllReadyH.cons (o := _) rfl (fun K hK => ?_) (AllReadyH.cons (o := _) rfl (fun K hK => ?_) AllReadyH.nil)
        · go_simp
          refine (unhide HSP y2 _ (unhide OC)).mono ?_
          rintro e y3 ⟨rfl, hbs⟩
          replace OC := hide ((unhide OC).below hbs)
          replace HBx := hide ((unhide HBx).trans (hbs.mono (unhide HBx).size))
          clear hbs
          go_wp2_with fail
          refine hK.out _ _ ?_ (fun hHeld => ?_)
          · exact ⟨((unhide HBx).cell (p := ⟨w.heap.size, 0, none⟩) hw2).trans x0, ((unhide HBx).cell (p := ⟨w.heap.size, 1, none⟩) hw2).trans x1, ((unhide HBx).cell (p := ⟨w.heap.size, 2, none⟩) hw2).trans x2, ((unhide HBx).cell (p := ⟨w.heap.size, 3, none⟩) hw2).trans x3, ((unhide HBx).cell (p := ⟨w.heap.size, 4, none⟩) hw2).trans x4⟩
          clear hK K
          (try simp only [Act.put, List.getElem_toArray, List.getElem_cons_succ, List.getElem_cons_zero, List.setIfInBounds_toArray, List.set_cons_zero, List.set_cons_succ])
          refine tkH 5 rfl ?_
          refine tkH 6 rfl ?_
          refine tkH 7 rfl ?_
          refine tkH 8 rfl ?_
          refine wpAnyH_ready (rs := [9]) (by kernel_rfl) (by simp) ?_
          refine AllReadyH.cons (o := _) rfl (fun K hK => ?_) AllReadyH.nil
          go_simp
          have hbs := (Below.refl y3.heap.size y3).alloc (Nat.le_refl _) (.cells #[.int .i64 0, .int .i64 0, .string ⟨#[]⟩] 40)
          replace OC := hide ((unhide OC).below hbs)
          have Brb := hide (Blk.new y3 #[.int .i64 0, .int .i64 0, .string ⟨#[]⟩] 40 y3.heap.size rfl)
          have hrb : w2.heap.size ≤ y3.heap.size := (unhide HBx).size
          replace HBx := hide ((unhide HBx).trans (hbs.mono (unhide HBx).size))
          refine hK.out _ _ ?_ (fun hHeld => ?_)
          · exact ⟨((unhide HBx).cell (p := ⟨w.heap.size, 0, none⟩) hw2).trans x0, ((unhide HBx).cell (p := ⟨w.heap.size, 1, none⟩) hw2).trans x1, ((unhide HBx).cell (p := ⟨w.heap.size, 2, none⟩) hw2).trans x2, ((unhide HBx).cell (p := ⟨w.heap.size, 3, none⟩) hw2).trans x3, ((unhide HBx).cell (p := ⟨w.heap.size, 4, none⟩) hw2).trans x4⟩
          clear hK K
          (try simp only [Act.put, List.getElem_toArray, List.getElem_cons_succ, List.getElem_cons_zero, List.setIfInBounds_toArray, List.set_cons_zero, List.set_cons_succ])
          clear hbs
          generalize y3.alloc (.cells #[.int .i64 0, .int .i64 0, .string ⟨#[]⟩] 40) = y4 at *
          generalize y3.heap.size = rb at *
          have crb0 := (unhide Brb).cell 0 rfl
          have frb0 := (unhide Brb).fro 0
          have crb1 := (unhide Brb).cell 1 rfl
          have frb1 := (unhide Brb).fro 1
          have crb2 := (unhide Brb).cell 2 rfl
          have frb2 := (unhide Brb).fro 2
          have T1s := ((((Touch.refl (fun x => x = rb) y4).setCell ⟨rb, 0, none⟩ (.int .i64 o1) (fun _ => rfl)).setCell ⟨rb, 1, none⟩ (.int .i64 o2) (fun _ => rfl)).setCell ⟨rb, 2, none⟩ (.string o3) (fun _ => rfl))
          have hsx := (unhide HBx).size
          have Nrb := hide ((((unhide Brb).set 0 (.int .i64 o1) (by simp)).set 1 (.int .i64 o2) (by simp)).set 2 (.string o3) (by simp))
          have KB1 := hide ((unhide HBx).trans (T1s.below (unhide HBx).size (fun x hx e => by (first | omega | (rcases e with e | e <;> omega) | (rcases e with e | e | e <;> omega)))))
          refine wpAnyH_ready (rs := [10]) (by kernel_rfl) (by simp) ?_
          refine AllReadyH.cons (o := _) rfl (fun K hK => ?_) AllReadyH.nil
          go_simp
          refine hK.out _ _ ?_ (fun hHeld => ?_)
          · exact ⟨((unhide KB1).cell (p := ⟨w.heap.size, 0, none⟩) hw2).trans x0, ((unhide KB1).cell (p := ⟨w.heap.size, 1, none⟩) hw2).trans x1, ((unhide KB1).cell (p := ⟨w.heap.size, 2, none⟩) hw2).trans x2, ((unhide KB1).cell (p := ⟨w.heap.size, 3, none⟩) hw2).trans x3, ((unhide KB1).cell (p := ⟨w.heap.size, 4, none⟩) hw2).trans x4⟩
          clear hK K
          (try simp only [Act.put, List.getElem_toArray, List.getElem_cons_succ, List.getElem_cons_zero, List.setIfInBounds_toArray, List.set_cons_zero, List.set_cons_succ])
          refine tkH 11 rfl ?_
          refine tkH 12 rfl ?_
          refine wpAnyH_done (by kernel_rfl) (NoPanic.normal ?_) _
          clear hHeld
          go_wp2_with fail
          go_meet
          exact ⟨rb, rfl, rfl, rfl, hide ⟨unhide KB1, hrb, unhide Nrb⟩⟩
        · go_simp
          have hbs := (Below.refl y2.heap.size y2).alloc (Nat.le_refl _) (.cells #[.int .i64 0, .int .i64 0, .string ⟨#[]⟩] 40)
          replace OC := hide ((unhide OC).below hbs)
          have Brb := hide (Blk.new y2 #[.int .i64 0, .int .i64 0, .string ⟨#[]⟩] 40 y2.heap.size rfl)
          have hrb : w2.heap.size ≤ y2.heap.size := (unhide HBx).size
          replace HBx := hide ((unhide HBx).trans (hbs.mono (unhide HBx).size))
          refine hK.out _ _ ?_ (fun hHeld => ?_)
          · exact ⟨((unhide HBx).cell (p := ⟨w.heap.size, 0, none⟩) hw2).trans x0, ((unhide HBx).cell (p := ⟨w.heap.size, 1, none⟩) hw2).trans x1, ((unhide HBx).cell (p := ⟨w.heap.size, 2, none⟩) hw2).trans x2, ((unhide HBx).cell (p := ⟨w.heap.size, 3, none⟩) hw2).trans x3, ((unhide HBx).cell (p := ⟨w.heap.size, 4, none⟩) hw2).trans x4⟩
          clear hK K
          (try simp only [Act.put, List.getElem_toArray, List.getElem_cons_succ, List.getElem_cons_zero, List.setIfInBounds_toArray, List.set_cons_zero, List.set_cons_succ])
          clear hbs
          generalize y2.alloc (.cells #[.int .i64 0, .int .i64 0, .string ⟨#[]⟩] 40) = y5 at *
          generalize y2.heap.size = rb at *
          refine wpAnyH_ready (rs := [4]) (by kernel_rfl) (by simp) ?_
          refine AllReadyH.cons (o := _) rfl (fun K hK => ?_) AllReadyH.nil
          go_simp
          refine (unhide HSP y5 _ (unhide OC)).mono ?_
          rintro e y6 ⟨rfl, hbs⟩
          replace OC := hide ((unhide OC).below hbs)
          replace Brb := hide ((unhide Brb).below hbs)
          replace HBx := hide ((unhide HBx).trans (hbs.mono (unhide HBx).size))
          clear hbs
          go_wp2_with fail
          refine hK.out _ _ ?_ (fun hHeld => ?_)
          · exact ⟨((unhide HBx).cell (p := ⟨w.heap.size, 0, none⟩) hw2).trans x0, ((unhide HBx).cell (p := ⟨w.heap.size, 1, none⟩) hw2).trans x1, ((unhide HBx).cell (p := ⟨w.heap.size, 2, none⟩) hw2).trans x2, ((unhide HBx).cell (p := ⟨w.heap.size, 3, none⟩) hw2).trans x3, ((unhide HBx).cell (p := ⟨w.heap.size, 4, none⟩) hw2).trans x4⟩
          clear hK K
          (try simp only [Act.put, List.getElem_toArray, List.getElem_cons_succ, List.getElem_cons_zero, List.setIfInBounds_toArray, List.set_cons_zero, List.set_cons_succ])
          refine tkH 5 rfl ?_
          refine tkH 6 rfl ?_
          refine tkH 7 rfl ?_
          refine tkH 8 rfl ?_
          have crb0 := (unhide Brb).cell 0 rfl
          have frb0 := (unhide Brb).fro 0
          have crb1 := (unhide Brb).cell 1 rfl
          have frb1 := (unhide Brb).fro 1
          have crb2 := (unhide Brb).cell 2 rfl
          have frb2 := (unhide Brb).fro 2
          have T1s := ((((Touch.refl (fun x => x = rb) y6).setCell ⟨rb, 0, none⟩ (.int .i64 o1) (fun _ => rfl)).setCell ⟨rb, 1, none⟩ (.int .i64 o2) (fun _ => rfl)).setCell ⟨rb, 2, none⟩ (.string o3) (fun _ => rfl))
          have hsx := (unhide HBx).size
          have Nrb := hide ((((unhide Brb).set 0 (.int .i64 o1) (by simp)).set 1 (.int .i64 o2) (by simp)).set 2 (.string o3) (by simp))
          have KB1 := hide ((unhide HBx).trans (T1s.below (unhide HBx).size (fun x hx e => by (first | omega | (rcases e with e | e <;> omega) | (rcases e with e | e | e <;> omega)))))
          refine wpAnyH_ready (rs := [10]) (by kernel_rfl) (by simp) ?_
          refine AllReadyH.cons (o := _) rfl (fun K hK => ?_) AllReadyH.nil
          go_simp
          refine hK.out _ _ ?_ (fun hHeld => ?_)
          · exact ⟨((unhide KB1).cell (p := ⟨w.heap.size, 0, none⟩) hw2).trans x0, ((unhide KB1).cell (p := ⟨w.heap.size, 1, none⟩) hw2).trans x1, ((unhide KB1).cell (p := ⟨w.heap.size, 2, none⟩) hw2).trans x2, ((unhide KB1).cell (p := ⟨w.heap.size, 3, none⟩) hw2).trans x3, ((unhide KB1).cell (p := ⟨w.heap.size, 4, none⟩) hw2).trans x4⟩
          clear hK K
          (try simp only [Act.put, List.getElem_toArray, List.getElem_cons_succ, List.getElem_cons_zero, List.setIfInBounds_toArray, List.set_cons_zero, List.set_cons_succ])
          refine tkH 11 rfl ?_
          refine tkH 12 rfl ?_
          refine wpAnyH_done (by kernel_rfl) (NoPanic.normal ?_) _
          clear hHeld
          go_wp2_with fail
          go_meet
          exact ⟨rb, rfl, rfl, rfl, hide ⟨unhide KB1, hrb, unhide Nrb⟩⟩
      · go_simp
        have hbs := (Below.refl y1.heap.size y1).alloc (Nat.le_refl _) (.cells #[.int .i64 0, .int .i64 0, .string ⟨#[]⟩] 40)
        replace OC := hide ((unhide OC).below hbs)
        have Brb := hide (Blk.new y1 #[.int .i64 0, .int .i64 0, .string ⟨#[]⟩] 40 y1.heap.size rfl)
        have hrb : w2.heap.size ≤ y1.heap.size := (unhide HBx).size
        replace HBx := hide ((unhide HBx).trans (hbs.mono (unhide HBx).size))
        refine hK.out _ _ ?_ (fun hHeld => ?_)
        · exact ⟨((unhide HBx).cell (p := ⟨w.heap.size, 0, none⟩) hw2).trans x0, ((unhide HBx).cell (p := ⟨w.heap.size, 1, none⟩) hw2).trans x1, ((unhide HBx).cell (p := ⟨w.heap.size, 2, none⟩) hw2).trans x2, ((unhide HBx).cell (p := ⟨w.heap.size, 3, none⟩) hw2).trans x3, ((unhide HBx).cell (p := ⟨w.heap.size, 4, none⟩) hw2).trans x4⟩
        clear hK K
        (try simp only [Act.put, List.getElem_toArray, List.getElem_cons_succ, List.getElem_cons_zero, List.setIfInBounds_toArray, List.set_cons_zero, List.set_cons_succ])
        clear hbs
        generalize y1.alloc (.cells #[.int .i64 0, .int .i64 0, .string ⟨#[]⟩] 40) = y7 at *
        generalize y1.heap.size = rb at *
        refine wpAnyH_ready (rs := [3]) (by kernel_rfl) (by simp) ?_
        refine AllReadyH.cons (o := _) rfl (fun K hK => ?_) AllReadyH.nil
        go_simp
        refine (toCm_any ⟨k, s, q, key, val⟩ y7).mono ?_
        rintro e y8 ⟨rfl, hbs⟩
        replace OC := hide ((unhide OC).below hbs)
        replace Brb := hide ((unhide Brb).below hbs)
        replace HBx := hide ((unhide HBx).trans (hbs.mono (unhide HBx).size))
        clear hbs
        go_wp2_with fail
        refine hK.out _ _ ?_ (fun hHeld => ?_)
        · exact ⟨((unhide HBx).cell (p := ⟨w.heap.size, 0, none⟩) hw2).trans x0, ((unhide HBx).cell (p := ⟨w.heap.size, 1, none⟩) hw2).trans x1, ((unhide HBx).cell (p := ⟨w.heap.size, 2, none⟩) hw2).trans x2, ((unhide HBx).cell (p := ⟨w.heap.size, 3, none⟩) hw2).trans x3, ((unhide HBx).cell (p := ⟨w.heap.size, 4, none⟩) hw2).trans x4⟩
        clear hK K
        (try simp only [Act.put, List.getElem_toArray, List.getElem_cons_succ, List.getElem_cons_zero, List.setIfInBounds_toArray, List.set_cons_zero, List.set_cons_succ])
        refine wpAnyH_ready (rs := [4]) (by kernel_rfl) (by simp) ?_
        refine AllReadyH.cons (o := _) rfl (fun K hK => ?_) AllReadyH.nil
        go_simp
        refine (unhide HSP y8 _ (unhide OC)).mono ?_
        rintro e y9 ⟨rfl, hbs⟩
        replace OC := hide ((unhide OC).below hbs)
        replace Brb := hide ((unhide Brb).below hbs)
        replace HBx := hide ((unhide HBx).trans (hbs.mono (unhide HBx).size))
        clear hbs
        go_wp2_with fail
        refine hK.out _ _ ?_ (fun hHeld => ?_)
        · exact ⟨((unhide HBx).cell (p := ⟨w.heap.size, 0, none⟩) hw2).trans x0, ((unhide HBx).cell (p := ⟨w.heap.size, 1, none⟩) hw2).trans x1, ((unhide HBx).cell (p := ⟨w.heap.size, 2, none⟩) hw2).trans x2, ((unhide HBx).cell (p := ⟨w.heap.size, 3, none⟩) hw2).trans x3, ((unhide HBx).cell (p := ⟨w.heap.size, 4, none⟩) hw2).trans x4⟩
        clear hK K
        (try simp only [Act.put, List.getElem_toArray, List.getElem_cons_succ, List.getElem_cons_zero, List.setIfInBounds_toArray, List.set_cons_zero, List.set_cons_succ])
        refine tkH 5 rfl ?_
        refine tkH 6 rfl ?_
        refine tkH 7 rfl ?_
        refine tkH 8 rfl ?_
        have crb0 := (unhide Brb).cell 0 rfl
        have frb0 := (unhide Brb).fro 0
        have crb1 := (unhide Brb).cell 1 rfl
        have frb1 := (unhide Brb).fro 1
        have crb2 := (unhide Brb).cell 2 rfl
        have frb2 := (unhide Brb).fro 2
        have T1s := ((((Touch.refl (fun x => x = rb) y9).setCell ⟨rb, 0, none⟩ (.int .i64 o1) (fun _ => rfl)).setCell ⟨rb, 1, none⟩ (.int .i64 o2) (fun _ => rfl)).setCell ⟨rb, 2, none⟩ (.string o3) (fun _ => rfl))
        have hsx := (unhide HBx).size
        have Nrb := hide ((((unhide Brb).set 0 (.int .i64 o1) (by simp)).set 1 (.int .i64 o2) (by simp)).set 2 (.string o3) (by simp))
        have KB1 := hide ((unhide HBx).trans (T1s.below (unhide HBx).size (fun x hx e => by (first | omega | (rcases e with e | e <;> omega) | (rcases e with e | e | e <;> omega)))))
        refine wpAnyH_ready (rs := [10]) (by kernel_rfl) (by simp) ?_
        refine AllReadyH.cons (o := _) rfl (fun K hK => ?_) AllReadyH.nil
        go_simp
        refine hK.out _ _ ?_ (fun hHeld => ?_)
        · exact ⟨((unhide KB1).cell (p := ⟨w.heap.size, 0, none⟩) hw2).trans x0, ((unhide KB1).cell (p := ⟨w.heap.size, 1, none⟩) hw2).trans x1, ((unhide KB1).cell (p := ⟨w.heap.size, 2, none⟩) hw2).trans x2, ((unhide KB1).cell (p := ⟨w.heap.size, 3, none⟩) hw2).trans x3, ((unhide KB1).cell (p := ⟨w.heap.size, 4, none⟩) hw2).trans x4⟩
        clear hK K
        (try simp only [Act.put, List.getElem_toArray, List.getElem_cons_succ, List.getElem_cons_zero, List.setIfInBounds_toArray, List.set_cons_zero, List.set_cons_succ])
        refine tkH 11 rfl ?_
        refine tkH 12 rfl ?_
        refine wpAnyH_done (by kernel_rfl) (NoPanic.normal ?_) _
        clear hHeld
        go_wp2_with fail
        go_meet
        exact ⟨rb, rfl, rfl, rfl, hide ⟨unhide KB1, hrb, unhide Nrb⟩⟩
    · go_simp
      have hbs := (Below.refl y0.heap.size y0).alloc (Nat.le_refl _) (.cells #[.int .i64 0, .int .i64 0, .string ⟨#[]⟩] 40)
      have Brb := hide (Blk.new y0 #[.int .i64 0, .int .i64 0, .string ⟨#[]⟩] 40 y0.heap.size rfl)
      have hrb : w2.heap.size ≤ y0.heap.size := (unhide HBx).size
      replace HBx := hide ((unhide HBx).trans (hbs.mono (unhide HBx).size))
      refine hK.out _ _ ?_ (fun hHeld => ?_)
      · exact ⟨((unhide HBx).cell (p := ⟨w.heap.size, 0, none⟩) hw2).trans x0, ((unhide HBx).cell (p := ⟨w.heap.size, 1, none⟩) hw2).trans x1, ((unhide HBx).cell (p := ⟨w.heap.size, 2, none⟩) hw2).trans x2, ((unhide HBx).cell (p := ⟨w.heap.size, 3, none⟩) hw2).trans x3, ((unhide HBx).cell (p := ⟨w.heap.size, 4, none⟩) hw2).trans x4⟩
      clear hK K
      (try simp only [Act.put, List.getElem_toArray, List.getElem_cons_succ, List.getElem_cons_zero, List.setIfInBounds_toArray, List.set_cons_zero, List.set_cons_succ])
      clear hbs
      generalize y0.alloc (.cells #[.int .i64 0, .int .i64 0, .string ⟨#[]⟩] 40) = y10 at *
      generalize y0.heap.size = rb at *
      refine wpAnyH_ready (rs := [1]) (by kernel_rfl) (by simp) ?_
      refine AllReadyH.cons (o := _) rfl (fun K hK => ?_) AllReadyH.nil
      go_simp
      refine (toCommandS_any v l y10 ((unhide HF).below ((unhide K2).trans ((unhide HBx).mono (unhide K2).size))) (unhide HS)).mono ?_
      rintro e y11 ⟨rfl, hO, _, hbs⟩
      obtain ⟨gv, hgv⟩ : ∃ gv, gv = (⟨y10.heap.size, 0, none⟩ : Addr) := ⟨_, rfl⟩
      rw [← hgv] at hO ⊢
      have OC := hide hO.read
      clear hO hgv
      replace Brb := hide ((unhide Brb).below hbs)
      replace HBx := hide ((unhide HBx).trans (hbs.mono (unhide HBx).size))
      clear hbs
      go_wp2_with fail
      refine hK.out _ _ ?_ (fun hHeld => ?_)
      · exact ⟨((unhide HBx).cell (p := ⟨w.heap.size, 0, none⟩) hw2).trans x0, ((unhide HBx).cell (p := ⟨w.heap.size, 1, none⟩) hw2).trans x1, ((unhide HBx).cell (p := ⟨w.heap.size, 2, none⟩) hw2).trans x2, ((unhide HBx).cell (p := ⟨w.heap.size, 3, none⟩) hw2).trans x3, ((unhide HBx).cell (p := ⟨w.heap.size, 4, none⟩) hw2).trans x4⟩
      clear hK K
      (try simp only [Act.put, List.getElem_toArray, List.getElem_cons_succ, List.getElem_cons_zero, List.setIfInBounds_toArray, List.set_cons_zero, List.set_cons_succ])
      refine wpAnyH_ready (rs := [3]) (by kernel_rfl) (by simp) ?_
      refine AllReadyH.cons (o := _) rfl (fun K hK => ?_) AllReadyH.nil
      go_simp
      refine (toCm_any ⟨k, s, q, key, val⟩ y11).mono ?_
      rintro e y12 ⟨rfl, hbs⟩
      replace Brb := hide ((unhide Brb).below hbs)
      replace OC := hide ((unhide OC).below hbs)
      replace HBx := hide ((unhide HBx).trans (hbs.mono (unhide HBx).size))
      clear hbs
      go_wp2_with fail
      refine hK.out _ _ ?_ (fun hHeld => ?_)
      · exact ⟨((unhide HBx).cell (p := ⟨w.heap.size, 0, none⟩) hw2).trans x0, ((unhide HBx).cell (p := ⟨w.heap.size, 1, none⟩) hw2).trans x1, ((unhide HBx).cell (p := ⟨w.heap.size, 2, none⟩) hw2).trans x2, ((unhide HBx).cell (p := ⟨w.heap.size, 3, none⟩) hw2).trans x3, ((unhide HBx).cell (p := ⟨w.heap.size, 4, none⟩) hw2).trans x4⟩
      clear hK K
      (try simp only [Act.put, List.getElem_toArray, List.getElem_cons_succ, List.getElem_cons_zero, List.setIfInBounds_toArray, List.set_cons_zero, List.set_cons_succ])
      refine wpAnyH_ready (rs := [4]) (by kernel_rfl) (by simp) ?_
      refine AllReadyH.cons (o := _) rfl (fun K hK => ?_) AllReadyH.nil
      go_simp
      refine (unhide HSP y12 _ (unhide OC)).mono ?_
      rintro e y13 ⟨rfl, hbs⟩
      replace Brb := hide ((unhide Brb).below hbs)
      replace OC := hide ((unhide OC).below hbs)
      replace HBx := hide ((unhide HBx).trans (hbs.mono (unhide HBx).size))
      clear hbs
      go_wp2_with fail
      refine hK.out _ _ ?_ (fun hHeld => ?_)
      · exact ⟨((unhide HBx).cell (p := ⟨w.heap.size, 0, none⟩) hw2).trans x0, ((unhide HBx).cell (p := ⟨w.heap.size, 1, none⟩) hw2).trans x1, ((unhide HBx).cell (p := ⟨w.heap.size, 2, none⟩) hw2).trans x2, ((unhide HBx).cell (p := ⟨w.heap.size, 3, none⟩) hw2).trans x3, ((unhide HBx).cell (p := ⟨w.heap.size, 4, none⟩) hw2).trans x4⟩
      clear hK K
      (try simp only [Act.put, List.getElem_toArray, List.getElem_cons_succ, List.getElem_cons_zero, List.setIfInBounds_toArray, List.set_cons_zero, List.set_cons_succ])
      refine tkH 5 rfl ?_
      refine tkH 6 rfl ?_
      refine tkH 7 rfl ?_
      refine tkH 8 rfl ?_
      have crb0 := (unhide Brb).cell 0 rfl
      have frb0 := (unhide Brb).fro 0
      have crb1 := (unhide Brb).cell 1 rfl
      have frb1 := (unhide Brb).fro 1
      have crb2 := (unhide Brb).cell 2 rfl
      have frb2 := (unhide Brb).fro 2
      have T1s := ((((Touch.refl (fun x => x = rb) y13).setCell ⟨rb, 0, none⟩ (.int .i64 o1) (fun _ => rfl)).setCell ⟨rb, 1, none⟩ (.int .i64 o2) (fun _ => rfl)).setCell ⟨rb, 2, none⟩ (.string o3) (fun _ => rfl))
      have hsx := (unhide HBx).size
      have Nrb := hide ((((unhide Brb).set 0 (.int .i64 o1) (by simp)).set 1 (.int .i64 o2) (by simp)).set 2 (.string o3) (by simp))
      have KB1 := hide ((unhide HBx).trans (T1s.below (unhide HBx).size (fun x hx e => by (first | omega | (rcases e with e | e <;> omega) | (rcases e with e | e | e <;> omega)))))
      refine wpAnyH_ready (rs := [10]) (by kernel_rfl) (by simp) ?_
      refine AllReadyH.cons (o := _) rfl (fun K hK => ?_) AllReadyH.nil
      go_simp
      refine hK.out _ _ ?_ (fun hHeld => ?_)
      · exact ⟨((unhide KB1).cell (p := ⟨w.heap.size, 0, none⟩) hw2).trans x0, ((unhide KB1).cell (p := ⟨w.heap.size, 1, none⟩) hw2).trans x1, ((unhide KB1).cell (p := ⟨w.heap.size, 2, none⟩) hw2).trans x2, ((unhide KB1).cell (p := ⟨w.heap.size, 3, none⟩) hw2).trans x3, ((unhide KB1).cell (p := ⟨w.heap.size, 4, none⟩) hw2).trans x4⟩
      clear hK K
      (try simp only [Act.put, List.getElem_toArray, List.getElem_cons_succ, List.getElem_cons_zero, List.setIfInBounds_toArray, List.set_cons_zero, List.set_cons_succ])
      refine tkH 11 rfl ?_
      refine tkH 12 rfl ?_
      refine wpAnyH_done (by kernel_rfl) (NoPanic.normal ?_) _
      clear hHeld
      go_wp2_with fail
      go_meet
      exact ⟨rb, rfl, rfl, rfl, hide ⟨unhide KB1, hrb, unhide Nrb⟩⟩
  case rest =>
    obtain ⟨rb, rfl, rfl, rfl, HG⟩ := hcut
    obtain ⟨w3, hw3e⟩ : ∃ w3, w3 = wc := ⟨_, rfl⟩
    rw [← hw3e] at HG ⊢
    clear hw3e
    have K3 := hide ((unhide K2).trans ((unhide HG).1.mono (unhide K2).size))
    have X3 := hide ((unhide X2).below (unhide HG).1)
    have R3 := hide (unhide HG).2.2
    clear HG K2 X2 x0 x1 x2 x3 x4 hw2 HSP
    go_wp2_with fail
    refine (toCommandS_any v l w3 ((unhide HF).below (unhide K3)) (unhide HS)).mono ?_
    rintro e w4 ⟨rfl, hO, _, hb⟩
    have K4 := hide ((unhide K3).trans (hb.mono (unhide K3).size))
    have X4 := hide ((unhide X3).below hb)
    have R4 := hide ((unhide R3).below hb)
    have O4 := hide hO.read
    clear hO hb K3 X3 R3
    generalize (⟨w3.heap.size, 0, none⟩ : Addr) = gv at *
    have x0 := (unhide X4).cell 0 rfl
    have x1 := (unhide X4).cell 1 rfl
    have x2 := (unhide X4).cell 2 rfl
    have x3 := (unhide X4).cell 3 rfl
    have x4 := (unhide X4).cell 4 rfl
    go_wp2_with fail
    refine (toCm_any ⟨k, s, q, key, val⟩ w4).mono ?_
    rintro e w5 ⟨rfl, hb⟩
    have K5 := hide ((unhide K4).trans (hb.mono (unhide K4).size))
    have R5 := hide ((unhide R4).below hb)
    have O5 := hide ((unhide O4).below hb)
    clear hb K4 X4 R4 O4 x0 x1 x2 x3 x4
    have HI5 := hide (unhide HIM w5 _ (unhide O5) ((unhide HT).below (unhide K5)))
    clear HIM
    go_wp2_with fail
    refine (unhide HI5).mono ?_
    rintro e w6 ⟨rfl, hb⟩
    have K6 := hide ((unhide K5).trans (hb.mono (unhide K5).size))
    have R6 := hide ((unhide R5).below hb)
    have O6 := hide ((unhide O5).below hb)
    clear hb K5 R5 O5 HI5
    have b1 : (o4 == o4) = true := by simp
    have b2 : (o4 != o4) = false := by simp
    have b3 : (o5 == o5) = true := by simp
    have b4 : (o5 != o5) = false := by simp
    have bA := (Below.refl w6.heap.size w6).alloc (Nat.le_refl _) (.cells #[.int .i64 o1, .int .i64 o2, .string o3] 40)
    have G7 := hide (Blk.new w6 #[.int .i64 o1, .int .i64 o2, .string o3] 40 w6.heap.size rfl)
    have NZ := Blk.new w6 #[.int .i64 0, .int .i64 0, .string ⟨#[]⟩] 40 w6.heap.size rfl
    have zc0 := NZ.cell 0 rfl
    have zf0 := NZ.fro 0
    have zc1 := NZ.cell 1 rfl
    have zf1 := NZ.fro 1
    have zc2 := NZ.cell 2 rfl
    have zf2 := NZ.fro 2
    have K7 := hide ((unhide K6).trans (bA.mono (unhide K6).size))
    have R7 := hide ((unhide R6).below bA)
    have O7 := hide ((unhide O6).below bA)
    clear NZ bA K6 R6 O6
    go_upto_region 11 with fail
    clear zc0 zf0 zc1 zf1 zc2 zf2
    generalize w6.alloc (.cells #[.int .i64 o1, .int .i64 o2, .string o3] 40) = w7 at *
    generalize w6.heap.size = gb at *
    have y0 := (unhide R7).cell 0 rfl
    have y1 := (unhide R7).cell 1 rfl
    have y2 := (unhide R7).cell 2 rfl
    have z0 := (unhide G7).cell 0 rfl
    have z1 := (unhide G7).cell 1 rfl
    have z2 := (unhide G7).cell 2 rfl
    have HE := hide (eqReply_any ⟨o1, o2, o3⟩ w7)
    dsimp only at HE
    go_wp2_with fail
    refine (unhide HE).mono ?_
    rintro e w8 ⟨rfl, hb⟩
    have K8 := hide ((unhide K7).trans (hb.mono (unhide K7).size))
    have O8 := hide ((unhide O7).below hb)
    clear hb K7 R7 O7 G7 y0 y1 y2 z0 z1 z2 HE
    go_wp2_with fail
    refine (toCommandS_any v l w8 ((unhide HF).below (unhide K8)) (unhide HS)).mono ?_
    rintro e w9 ⟨rfl, hO, _, hb⟩
    have K9 := hide ((unhide K8).trans (hb.mono (unhide K8).size))
    have HC := hide (eqCommandS_any _ _ l w9 ((unhide O8).below hb) hO.read (unhide HS))
    clear hO hb K8 O8
    go_wp2_with fail
    refine (unhide HC).mono ?_
    rintro e w10 ⟨rfl, hb⟩
    have K10 := hide ((unhide K9).trans (hb.mono (unhide K9).size))
    clear hb K9 HC
    go_wp2_with fail
    go_ret
    exact ⟨rfl, unhide K10⟩

theorem vars_of_laid {W : World} (h : laidMetH Tryz.prog Rows.fnExactAnswerInRow.laid W) :
    W.var? Tryz.prog "loop.example/g00220/impl.firstWords" = some firstCells ∧ W.var? Tryz.prog "loop.example/g00220/impl.roundWords" = some roundCells := by
  rw [MakeChecks.laidMetH_plain _ _ _ (by kernel_rfl)] at h
  obtain ⟨ps, ⟨g0, t0, cs0, f0, p0, q0, hg0, ht0, hv0, hd0, ⟨g1, t1, cs1, f1, p1, q1, hg1, ht1, hv1, hd1, _, _⟩, _⟩, _, _⟩ := h
  obtain rfl := Option.some.inj (gFirst.symm.trans hg0)
  obtain rfl := Option.some.inj (gRound.symm.trans hg1)
  obtain rfl := Option.some.inj (gFirstType.symm.trans ht0)
  obtain rfl := Option.some.inj (gRoundType.symm.trans ht1)
  have e0 := Lib.cells_of_tab (k := .u32) (cs := cs0.toList) (zs := iL.map fun (n : Nat) => (n : Int)) Tryz.underlying187 Tryz.underlying171 cellsE cellsA hd0
  have e1 := Lib.cells_of_tab (k := .u32) (cs := cs1.toList) (zs := kL.map fun (n : Nat) => (n : Int)) Tryz.underlying191 Tryz.underlying171 cellsE cellsB hd1
  have a0 : cs0 = firstCells := by
    have : cs0.toList = firstCells.toList := e0.trans (by kernel_rfl)
    exact Array.toList_inj.1 this
  have a1 : cs1 = roundCells := by
    have : cs1.toList = roundCells.toList := e1.trans (by kernel_rfl)
    exact Array.toList_inj.1 this
  exact ⟨by rw [hv0, a0], by rw [hv1, a1]⟩
theorem door_met (os : Os) (args : Array Value) : laidMetH Tryz.prog Rows.fnExactAnswerInRow.laid ((World.doorLaid Tryz.prog 19 os).forCall (fun _ _ => 0) ⟨#[], args, []⟩).memory :=
  laidMetH_of_parts3 (fuel := 8) (laidMet_of_run' 8 (by kernel_rfl) (by kernel_rfl)) (by kernel_rfl) (by kernel_rfl)
set_option maxRecDepth 100000 in
theorem lifted (os : Os) (started : os.Started) (H : Type) (enc : TypeId × Value → H) :
    ReturnsInHanded {} Tryz.checked os 5 .any (fun w args => (Rows.fnExactAnswerInSpec.pre enc Tryz.prog Tryz.f5 [] false w args ∧ laidMetH Tryz.prog Rows.fnExactAnswerInRow.laid w) ∧ sizedMet enc Tryz.prog Tryz.f5 (OpenSpec.ofChange Rows.fnExactAnswerInSpec) false w args)
      (Rows.fnExactAnswerInSpec.post enc Tryz.prog Tryz.f5 false true false false) := by
  refine returnsInHanded_of_change_and (C := Tryz.checked) (X := fun w _ => laidMetH Tryz.prog Rows.fnExactAnswerInRow.laid w) (fun _ _ _ hh h => h.of_heap hh) own started (by kernel_rfl) Tryz.func5
    (ChangeSpec.witness_shaped (enc := enc) (C := Tryz.checked) (os := os) (X := fun w _ => laidMetH Tryz.prog Rows.fnExactAnswerInRow.laid w) false (World.doorLaid Tryz.prog 19 os) #[.slice none 0 0, .agg #[.int .i64 0, .int .i64 0, .int .i64 0, .string ByteArray.empty, .string ByteArray.empty]] 8 rfl (World.shaped_of_RefB (by kernel_rfl) (by kernel_rfl)) (by kernel_rfl) (by kernel_rfl) (by kernel_rfl) (door_met os _)) ?_
  intro W base args ds gs before hval0 hW _ _ hL _
  have hval : ∀ (j : Nat) t v, Tryz.f5.params[j]? = some t → args[j]? = some v → Value.okWide Tryz.prog W .any base t v := hval0
  have hW' := hW
  obtain ⟨p, q, hA0, hV0, rfl, hfz, hnd⟩ := hW
  have hA : DataW.TrodAll enc Tryz.prog W 0 (fun _ => true) true Tryz.f5.params.toList args.toList ds p := hA0
  have hV : DataW.TrodVars enc Tryz.prog W (fun _ => true) ["loop.example/g00220/impl.firstWords", "loop.example/g00220/impl.roundWords"] gs q := hV0
  rw [Tryz.params5] at hA hval
  obtain ⟨v0, vs0, d0, ds0, p0, q0, hargs, rfl, rfl, h0, r0⟩ := trodAll_cons hA
  obtain ⟨v1, vs1, d1, ds1, p1, q1, rfl, rfl, rfl, h1, r1⟩ := trodAll_cons r0
  obtain ⟨rfl, rfl, rfl⟩ := trodAll_nil r1
  obtain rfl : args = #[v0, v1] := by cases args; simp_all
  have k0 := h0
  have lt0 : ∀ x ∈ p0, x.block < W.heap.size := by obtain ⟨m, hm⟩ := k0; exact DataW.trod_lt m _ _ _ hm
  obtain ⟨l0, hf0, hz0⟩ := open_commands (hval 0 50 v0 rfl rfl) h0
  have k1 := h1
  have lt1 : ∀ x ∈ p1, x.block < W.heap.size := by obtain ⟨m, hm⟩ := k1; exact DataW.trod_lt m _ _ _ hm
  obtain ⟨ka1, sa1, qa1, key1, val1, rfl, wk1, ws1, wq1, hk1, hv1⟩ := open_cmd (hval 1 30 v1 rfl rfl) h1
  obtain ⟨hvA, hvB⟩ := vars_of_laid hL
  clear hA0 hV0 hval0
  refine (walk v0 l0 ka1 sa1 qa1 key1 val1 W hf0 hz0 wk1 ws1 wq1 hk1 hv1 (first_of hvA) (table_of hvB)).mono fun e W' ⟨he, bel⟩ => ?_
  subst he
  obtain ⟨rfl, pv, hvs⟩ := vars_again (sp := fun b => decide (b < W.heap.size)) hvA hvB hV bel
  exact ⟨_, rfl, _, _, _, [], _, pv, hW', trodAll_mk1 (shut_bool Tryz.underlying4 _), (trodAll_cons_mk (Below.trod laidOut (by kernel_rfl) (of_decide_eq_true (by kernel_rfl)) k0 bel lt0) (trodAll_cons_mk (Below.trod laidOut (by kernel_rfl) (of_decide_eq_true (by kernel_rfl)) k1 bel lt1) trodAll_mk0)), hvs, bel.frame _, fun h => by cases h⟩

theorem said : Rows.FnExactAnswerInSaid :=
  OpenClaim.holds_of_wide 5 Tryz.f5 rfl rfl rfl rfl rfl rfl rfl ⟨rfl, rfl, rfl, rfl, rfl⟩ rfl rfl rfl rfl rfl (by kernel_rfl) Tryz.func5 (by kernel_rfl)
    (of_decide_eq_true (by kernel_rfl)) (by unfold Func.isWrapper; first | (rw [if_pos (by decide +kernel)]; kernel_rfl) | (rw [if_neg (by decide +kernel)]; exact ⟨rfl, rfl⟩))
    (fun os started H enc _ => lifted os started H enc)

theorem plain (f : FuncId) (fn : Func) (hf : Tryz.pinned.checked.prog.funcNamed "loop.example/g00220/laws.FnExactAnswerIn" = some f) (hfn : Tryz.pinned.checked.prog.funcs[f]? = some fn) :
    false = Tryz.pinned.checked.prog.looks [] ∧ ∀ (j : Nat) t, fn.params[j]? = some t → Tryz.pinned.checked.prog.wantsStandIn t = false := by
  obtain rfl : f = 5 := Option.some.inj ((show Tryz.prog.funcNamed "loop.example/g00220/laws.FnExactAnswerIn" = some 5 by kernel_rfl).symm.trans hf) |>.symm
  obtain rfl : fn = Tryz.f5 := (Option.some.inj (Tryz.func5.symm.trans hfn)).symm
  refine ⟨by kernel_rfl, fun j t ht => ?_⟩
  rw [Tryz.params5] at ht
  have hmem : t = 50 ∨ t = 30 := by
    have := Array.mem_of_getElem? ht
    simp at this
    omega
  rcases hmem with rfl | rfl
  · exact (show Tryz.prog.wantsStandIn 50 = false by kernel_rfl)
  · exact (show Tryz.prog.wantsStandIn 30 = false by kernel_rfl)
end Go.Proofs.YtnhhnjmjodmacaaGreatDoor.fnExactAnswerIn
namespace Go.Proofs.YtnhhnjmjodmacaaGreatDoor
theorem fnExactAnswerIn_card : Rows.FnExactAnswerInCardSaid :=
  Claim7.holds_tied_plain_at .later [] _ _ _ _ fnExactAnswerIn.said (fun _ h => by cases h) (by kernel_rfl) (fun _ h => by cases h) fnExactAnswerIn_row_tie rfl ⟨rfl, rfl⟩ (by kernel_rfl) rfl fnExactAnswerIn.plain (by kernel_rfl)
#print axioms fnExactAnswerIn_card
end Go.Proofs.YtnhhnjmjodmacaaGreatDoor
