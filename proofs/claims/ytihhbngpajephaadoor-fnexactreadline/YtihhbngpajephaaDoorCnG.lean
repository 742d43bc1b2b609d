/- A console's line: readers whose regions do not draw. (Written by py/cng.py.) -/
import Derived.Test.YtihhbngpajephaaDoorCnN
import Derived.Test.YtihhbngpajephaaDoorCnD
import Derived.Test.YtihhbngpajephaaDoorCmd
namespace Go.Proofs.YtihhbngpajephaaDoor.Sha
open Go.ChangeShapes Go.WideShapes Go.ChangeAt Go.RowKit
set_option linter.unusedVariables false
set_option linter.unusedSimpArgs false

theorem rq_belowB {w w3 : World} (b : Nat) (hb : w.heap.size ≤ b) (hB : Below w.heap.size w w3) (w1 w2 : ByteArray) (k s q : Int) (y v : ByteArray) :
    Below w.heap.size w (set7q w3 b (.string w1) (.string w2) (.int .i64 k) (.int .i64 s) (.int .i64 q) (.string y) (.string v)) := by
  have ht := (((((((Touch.refl (fun x => x = b) w3).setCell ⟨b, 0, none⟩ (.string w1) (fun _ => rfl)).setCell ⟨b, 1, none⟩ (.string w2) (fun _ => rfl)).setCell ⟨b, 2, none⟩ (.int .i64 k) (fun _ => rfl)).setCell ⟨b, 3, none⟩ (.int .i64 s) (fun _ => rfl)).setCell ⟨b, 4, none⟩ (.int .i64 q) (fun _ => rfl)).setCell ⟨b, 5, none⟩ (.string y) (fun _ => rfl)).setCell ⟨b, 6, none⟩ (.string v) (fun _ => rfl)
  exact hB.trans (ht.below hB.size (fun x hx e => by omega))
/-- A command that is asked for. -/
def doO (k s q : Int) (y v : ByteArray) : Option Rq := if cmdOK k s q y v = true then some ⟨⟨#[100, 111]⟩, ⟨#[]⟩, k, s, q, y, v⟩ else none
set_option maxRecDepth 100000 in
set_option maxHeartbeats 4000000 in
theorem doing_any (k s q : Int) (y v : ByteArray) (w : World) (hy : y.size ≤ maxLen) (hv : v.size ≤ maxLen) :
    Calls Tryd.prog 35 #[.agg #[.int .i64 k, .int .i64 s, .int .i64 q, .string y, .string v]] w fun e w' => RqA (doO k s q y v) w e w' := by
  have HR := hide (fun wx => raise_any 3 wx)
  have HC := hide (fun wx => implCommandOK_any k s q y v wx hy hv)
  have HO := hide (show doO k s q y v = if cmdOK k s q y v = true then some ⟨⟨#[100, 111]⟩, ⟨#[]⟩, k, s, q, y, v⟩ else none from rfl)
  have B0 := hide (((Below.refl w.heap.size w).alloc (Nat.le_refl _) (.cells #[.int .i64 k, .int .i64 s, .int .i64 q, .string y, .string v] 23)).alloc (by simp) (.cells #[.string ⟨#[]⟩, .string ⟨#[]⟩, .int .i64 0, .int .i64 0, .int .i64 0, .string ⟨#[]⟩, .string ⟨#[]⟩] 33))
  have C0 := hide ((Blk.new w #[.int .i64 k, .int .i64 s, .int .i64 q, .string y, .string v] 23 w.heap.size rfl).alloc (.cells #[.string ⟨#[]⟩, .string ⟨#[]⟩, .int .i64 0, .int .i64 0, .int .i64 0, .string ⟨#[]⟩, .string ⟨#[]⟩] 33))
  have R0 := hide (Blk.new (w.alloc (.cells #[.int .i64 k, .int .i64 s, .int .i64 q, .string y, .string v] 23)) #[.string ⟨#[]⟩, .string ⟨#[]⟩, .int .i64 0, .int .i64 0, .int .i64 0, .string ⟨#[]⟩, .string ⟨#[]⟩] 33 (w.heap.size + 1) (by simp))
  generalize doO k s q y v = ro at *
  generalize cmdOK k s q y v = ok at *
  clear hy hv
  go_enter Tryd.func35, Tryd.ntmps35
  go_upto_region 1 with fail
  generalize (w.alloc (.cells #[.int .i64 k, .int .i64 s, .int .i64 q, .string y, .string v] 23)).alloc (.cells #[.string ⟨#[]⟩, .string ⟨#[]⟩, .int .i64 0, .int .i64 0, .int .i64 0, .string ⟨#[]⟩, .string ⟨#[]⟩] 33) = w0 at *
  obtain ⟨c0, c1, c2, c3, c4⟩ : (w0.cell? ⟨w.heap.size, 0, none⟩ = some (.int .i64 k)) ∧ (w0.cell? ⟨w.heap.size, 1, none⟩ = some (.int .i64 s)) ∧ (w0.cell? ⟨w.heap.size, 2, none⟩ = some (.int .i64 q)) ∧ (w0.cell? ⟨w.heap.size, 3, none⟩ = some (.string y)) ∧ (w0.cell? ⟨w.heap.size, 4, none⟩ = some (.string v)) := ⟨(unhide C0).cell 0 rfl, (unhide C0).cell 1 rfl, (unhide C0).cell 2 rfl, (unhide C0).cell 3 rfl, (unhide C0).cell 4 rfl⟩
  go_wp2_with fail
  refine (unhide HC _).mono ?_
  rintro e w1 ⟨rfl, hb⟩
  have B1 := hide ((unhide B0).trans (hb.mono (unhide B0).size))
  have C1 := hide ((unhide C0).below hb)
  have R1 := hide ((unhide R0).below hb)
  clear hb HC B0 C0 R0 c0 c1 c2 c3 c4
  cases ok with
  | false =>
    clear C1 R1
    go_wp2_with fail
    refine (unhide HR _).mono ?_
    rintro e w9 ⟨rfl, hw9⟩
    subst w9
    unfold flt
    go_wp2_with fail
    refine ⟨rfl, RqA.no (by rw [unhide HO]; rfl) rfl (unhide B1)⟩
  | true =>
    obtain ⟨c0, c1, c2, c3, c4⟩ : (w1.cell? ⟨w.heap.size, 0, none⟩ = some (.int .i64 k)) ∧ (w1.cell? ⟨w.heap.size, 1, none⟩ = some (.int .i64 s)) ∧ (w1.cell? ⟨w.heap.size, 2, none⟩ = some (.int .i64 q)) ∧ (w1.cell? ⟨w.heap.size, 3, none⟩ = some (.string y)) ∧ (w1.cell? ⟨w.heap.size, 4, none⟩ = some (.string v)) := ⟨(unhide C1).cell 0 rfl, (unhide C1).cell 1 rfl, (unhide C1).cell 2 rfl, (unhide C1).cell 3 rfl, (unhide C1).cell 4 rfl⟩
    clear C1 HR
    have HY := hide (rq_set (unhide R1) (⟨#[100, 111]⟩) (⟨#[]⟩) (k) (s) (q) (y) (v))
    have HK := hide (rq_belowB (w.heap.size + 1) (by omega) (unhide B1) (⟨#[100, 111]⟩) (⟨#[]⟩) (k) (s) (q) (y) (v))
    obtain ⟨⟨x0, x1, x2, x3, x4, x5, x6⟩, g0, g1, g2, g3, g4, g5, g6⟩ := Blk.c7 (unhide R1)
    clear R1 B1
    go_wp2_with fail
    obtain ⟨⟨z0, z1, z2, z3, z4, z5, z6⟩, _⟩ := Blk.c7 (unhide HY)
    refine bodyPost_ret (v := rqV ⟨⟨#[100, 111]⟩, ⟨#[]⟩, k, s, q, y, v⟩) (by simp [results, rqV, Tryd.results35, go_sem, z0, z1, z2, z3, z4, z5, z6]) rfl ?_
    exact RqA.yes (by rw [unhide HO]; rfl) rfl (unhide HK)
/-- A word alone. -/
def alO (l : List ByteArray) : Option Rq := if l.length = 1 then some ⟨l.getD 0 ByteArray.empty, ⟨#[]⟩, 0, 0, 0, ⟨#[]⟩, ⟨#[]⟩⟩ else none
set_option maxRecDepth 100000 in
set_option maxHeartbeats 4000000 in
theorem alone_any (b off cap : Nat) (l : List ByteArray) (w : World) (hm : l.length ≤ 9223372036854775807) (h0 : 0 < l.length) (hb0 : b < w.heap.size) (hc : w.cell? ⟨b, off, none⟩ = some (.string (l.getD 0 ByteArray.empty))) :
    Calls Tryd.prog 26 #[.slice (some ⟨b, off, none⟩) l.length cap] w fun e w' => RqA (alO l) w e w' := by
  have HO := hide (show alO l = if l.length = 1 then some ⟨l.getD 0 ByteArray.empty, ⟨#[]⟩, 0, 0, 0, ⟨#[]⟩, ⟨#[]⟩⟩ else none from rfl)
  have HM1 := hide (fun wx => mustBe_ok (some ⟨b, off, none⟩) l.length cap wx hm)
  have HM2 := hide (fun (hne : (l.length : Int) ≠ 1) wx => mustBe_no (some ⟨b, off, none⟩) l.length cap 1 wx hm hne)
  generalize alO l = ro at *
  generalize l.getD 0 ByteArray.empty = t at *
  have B0 := hide ((Below.refl w.heap.size w).alloc (Nat.le_refl _) (.cells #[.string ⟨#[]⟩, .string ⟨#[]⟩, .int .i64 0, .int .i64 0, .int .i64 0, .string ⟨#[]⟩, .string ⟨#[]⟩] 33))
  have R0 := hide (Blk.new w #[.string ⟨#[]⟩, .string ⟨#[]⟩, .int .i64 0, .int .i64 0, .int .i64 0, .string ⟨#[]⟩, .string ⟨#[]⟩] 33 w.heap.size rfl)
  have c0 := (((Below.refl w.heap.size w).alloc (Nat.le_refl _) (.cells #[.string ⟨#[]⟩, .string ⟨#[]⟩, .int .i64 0, .int .i64 0, .int .i64 0, .string ⟨#[]⟩, .string ⟨#[]⟩] 33)).cell (p := ⟨b, off, none⟩) hb0).trans hc
  clear hc
  go_enter Tryd.func26, Tryd.ntmps26
  go_upto_region 1 with fail
  generalize w.alloc (.cells #[.string ⟨#[]⟩, .string ⟨#[]⟩, .int .i64 0, .int .i64 0, .int .i64 0, .string ⟨#[]⟩, .string ⟨#[]⟩] 33) = w0 at *
  by_cases hn : l.length = 1
  · have E := hide ((unhide HO).trans (if_pos hn))
    rw [hn] at HM1
    clear HO HM2
    rw [hn]
    go_wp2_with fail
    refine (unhide HM1 _).mono ?_
    rintro e w9 ⟨⟨u, rfl⟩, hw9⟩
    subst w9
    clear HM1
    have HY := hide (rq_set (unhide R0) (t) (⟨#[]⟩) (0) (0) (0) (⟨#[]⟩) (⟨#[]⟩))
    have HK := hide (rq_belowB (w.heap.size) (by omega) (unhide B0) (t) (⟨#[]⟩) (0) (0) (0) (⟨#[]⟩) (⟨#[]⟩))
    obtain ⟨⟨x0, x1, x2, x3, x4, x5, x6⟩, g0, g1, g2, g3, g4, g5, g6⟩ := Blk.c7 (unhide R0)
    clear R0 B0
    go_wp2_with fail
    obtain ⟨⟨z0, z1, z2, z3, z4, z5, z6⟩, _⟩ := Blk.c7 (unhide HY)
    refine bodyPost_ret (v := rqV ⟨t, ⟨#[]⟩, 0, 0, 0, ⟨#[]⟩, ⟨#[]⟩⟩) (by simp [results, rqV, Tryd.results26, go_sem, z0, z1, z2, z3, z4, z5, z6]) rfl ?_
    exact RqA.yes (unhide E) rfl (unhide HK)
  · have E := hide ((unhide HO).trans (if_neg hn))
    have HM := hide (unhide HM2 (by omega))
    clear HO HM1 HM2 R0 c0
    go_wp2_with fail
    refine (unhide HM _).mono ?_
    rintro e w9 ⟨rfl, hw9⟩
    subst w9
    unfold flt
    go_wp2_with fail
    exact ⟨rfl, RqA.no (unhide E) rfl (unhide B0)⟩
end Go.Proofs.YtihhbngpajephaaDoor.Sha
