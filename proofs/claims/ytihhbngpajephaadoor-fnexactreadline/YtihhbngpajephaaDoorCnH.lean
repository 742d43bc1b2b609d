/- A console's line: one word behind the first, a number. (Written by py/cnh.py.) -/
import Derived.Test.YtihhbngpajephaaDoorCnG
namespace Go.Proofs.YtihhbngpajephaaDoor.Sha
open Go.ChangeShapes Go.WideShapes Go.ChangeAt Go.RowKit
set_option linter.unusedVariables false
set_option linter.unusedSimpArgs false

theorem NumE.yes {t : ByteArray} {w w' : World} {e : Ending} (h : NumE t w e w') (hb : (numT t).2 = true) : Below w.heap.size w w' ∧ e = .returned (.int .i64 (numT t).1) := ⟨h.1, h.2.1 hb⟩
theorem NumE.no {t : ByteArray} {w w' : World} {e : Ending} (h : NumE t w e w') (hb : (numT t).2 = false) : Below w.heap.size w w' ∧ e = flt 3 := ⟨h.1, h.2.2 hb⟩
theorem RqA.got {r : Rq} {w w' : World} {e : Ending} (h : RqA (some r) w e w') : Below w.heap.size w w' ∧ e = .returned (rqV r) := h
theorem RqA.raised {w w' : World} {e : Ending} (h : RqA none w e w') : Below w.heap.size w w' ∧ e = flt 3 := h
/-- What a slice of words holds. -/
structure Wds (w : World) (b off : Nat) (l : List ByteArray) : Prop where
  lm : l.length ≤ maxLen
  lb : b < w.heap.size
  lc : ∀ i, i < l.length → w.cell? ⟨b, off + i, none⟩ = some (.string (l.getD i ByteArray.empty))
  lz : ∀ i, (l.getD i ByteArray.empty).size ≤ 1048576
theorem Wds.below {w w' : World} {b off : Nat} {l : List ByteArray} (h : Wds w b off l) (hb : Below w.heap.size w w') : Wds w' b off l :=
  ⟨h.lm, Nat.lt_of_lt_of_le h.lb hb.size, fun i hi => (hb.cell (p := ⟨b, off + i, none⟩) h.lb).trans (h.lc i hi), h.lz⟩
def sesO (k : Int) (l : List ByteArray) : Option Rq := if l.length = 2 then (if ((numT (l.getD 1 ByteArray.empty)).2) = true then doO k ((numT (l.getD 1 ByteArray.empty)).1) 0 ⟨#[]⟩ ⟨#[]⟩ else none) else none
set_option maxRecDepth 100000 in
set_option maxHeartbeats 8000000 in
theorem ses_any (b off cap : Nat) (k : Int) (l : List ByteArray) (w : World) (h0 : 0 < l.length) (hW : Wds w b off l) (hC : Cns w) :
    Calls Tryd.prog 37 #[.slice (some ⟨b, off, none⟩) l.length cap, .int .i64 k] w fun e w' => RqA (sesO k l) w e w' := by
  have hm : l.length ≤ 9223372036854775807 := by have := hW.lm; unfold maxLen at this; omega
  have HO := hide (show sesO k l = if l.length = 2 then (if ((numT (l.getD 1 ByteArray.empty)).2) = true then doO k ((numT (l.getD 1 ByteArray.empty)).1) 0 ⟨#[]⟩ ⟨#[]⟩ else none) else none from rfl)
  have HM1 := hide (fun wx => mustBe_ok (some ⟨b, off, none⟩) l.length cap wx hm)
  have HM2 := hide (fun (hne : (l.length : Int) ≠ 2) wx => mustBe_no (some ⟨b, off, none⟩) l.length cap 2 wx hm hne)
  have HN0 := hide (fun (hi : 1 < l.length) wx (hx : Below w.heap.size w wx) => number_any b off cap l 1 wx hi hW.lm (hW.below hx).lb ((hW.below hx).lc 1 hi) (hW.lz 1) (hC.below hx))
  have HD := hide (fun wx => doing_any k ((numT (l.getD 1 ByteArray.empty)).1) 0 ⟨#[]⟩ ⟨#[]⟩ wx  (by decide) (by decide))
  have hb0 := hW.lb
  clear hW hC h0
  generalize sesO k l = ro at *
  have HP0 := hide (fun wx e w' (h : NumE (l.getD 1 ByteArray.empty) wx e w') hb => h.yes hb)
  have HQ0 := hide (fun wx e w' (h : NumE (l.getD 1 ByteArray.empty) wx e w') hb => h.no hb)
  generalize l.getD 1 ByteArray.empty = t1 at *
  generalize numT t1 = n1 at *
  obtain ⟨v1, y1⟩ := n1
  dsimp only at HO HD HP0 HQ0
  have B0 := hide ((Below.refl w.heap.size w).alloc (Nat.le_refl _) (.cells #[.string ⟨#[]⟩, .string ⟨#[]⟩, .int .i64 0, .int .i64 0, .int .i64 0, .string ⟨#[]⟩, .string ⟨#[]⟩] 33))
  have R0 := hide (Blk.new w #[.string ⟨#[]⟩, .string ⟨#[]⟩, .int .i64 0, .int .i64 0, .int .i64 0, .string ⟨#[]⟩, .string ⟨#[]⟩] 33 w.heap.size rfl)
  go_enter Tryd.func37, Tryd.ntmps37
  go_upto_region 1 with fail
  generalize w.alloc (.cells #[.string ⟨#[]⟩, .string ⟨#[]⟩, .int .i64 0, .int .i64 0, .int .i64 0, .string ⟨#[]⟩, .string ⟨#[]⟩] 33) = w0 at *
  by_cases hn : l.length = 2
  · have E := hide ((unhide HO).trans (if_pos hn))
    rw [hn] at HM1
    have HNN := hide (unhide HN0 (by omega))
    clear HO HM2 HN0
    rw [hn] at HNN ⊢
    go_wp2_with fail
    refine (unhide HM1 _).mono ?_
    rintro e w9 ⟨⟨u, rfl⟩, hw9⟩
    subst w9
    clear HM1
    cases y1 with
    | false =>
      replace E := hide ((unhide E).trans (if_neg (by decide)))
      have HNX := hide (fun wx hx => (unhide HNN wx hx).mono (fun e w' h => unhide HQ0 wx e w' h rfl))
      clear HNN HP0 HQ0 R0
      go_wp2_with fail
      refine (unhide HNX _ (unhide B0)).mono ?_
      rintro e w2 ⟨hb2, rfl⟩
      have B2 := hide ((unhide B0).trans (hb2.mono (unhide B0).size))
      unfold flt
      go_wp2_with fail
      exact ⟨rfl, RqA.no (unhide E) rfl (unhide B2)⟩
    | true =>
      replace E := hide ((unhide E).trans (if_pos rfl))
      have HNX := hide (fun wx hx => (unhide HNN wx hx).mono (fun e w' h => unhide HP0 wx e w' h rfl))
      clear HNN HP0 HQ0
      go_wp2_with fail
      refine (unhide HNX _ (unhide B0)).mono ?_
      rintro e w2 ⟨hb2, rfl⟩
      have B2 := hide ((unhide B0).trans (hb2.mono (unhide B0).size))
      have R2 := hide ((unhide R0).below hb2)
      clear hb2 HNX B0 R0
      go_wp2_with fail
      refine (unhide HD _).mono ?_
      generalize doO k v1 0 ⟨#[]⟩ ⟨#[]⟩ = rd at *
      rintro e w3 h3
      have B3 := hide ((unhide B2).trans (h3.1.mono (unhide B2).size))
      have R3 := hide ((unhide R2).below h3.1)
      clear HD B2 R2
      cases rd with
      | none =>
        obtain ⟨_, rfl⟩ := h3.raised
        unfold flt
        go_wp2_with fail
        exact ⟨rfl, RqA.no (unhide E) rfl (unhide B3)⟩
      | some r =>
        obtain ⟨_, rfl⟩ := h3.got
        obtain ⟨f0, f1, f2, f3, f4, f5, f6⟩ := r
        dsimp only [rqV]
        clear h3
        have HY := hide (rq_set (unhide R3) (f0) (f1) (f2) (f3) (f4) (f5) (f6))
        have HK := hide (rq_belowB (w.heap.size) (by omega) (unhide B3) (f0) (f1) (f2) (f3) (f4) (f5) (f6))
        obtain ⟨⟨x0, x1, x2, x3, x4, x5, x6⟩, g0, g1, g2, g3, g4, g5, g6⟩ := Blk.c7 (unhide R3)
        clear R3 B3
        go_wp2_with fail
        obtain ⟨⟨z0, z1, z2, z3, z4, z5, z6⟩, _⟩ := Blk.c7 (unhide HY)
        refine bodyPost_ret (v := rqV ⟨f0, f1, f2, f3, f4, f5, f6⟩) (by simp [results, rqV, Tryd.results37, go_sem, z0, z1, z2, z3, z4, z5, z6]) rfl ?_
        exact RqA.yes (unhide E) rfl (unhide HK)
  · have E := hide ((unhide HO).trans (if_neg hn))
    have HM := hide (unhide HM2 (by omega))
    clear HO HM1 HM2 R0 HN0 HP0 HQ0 HD
    go_wp2_with fail
    refine (unhide HM _).mono ?_
    rintro e w9 ⟨rfl, hw9⟩
    subst w9
    unfold flt
    go_wp2_with fail
    exact ⟨rfl, RqA.no (unhide E) rfl (unhide B0)⟩
end Go.Proofs.YtihhbngpajephaaDoor.Sha
