/- Histories: spec.LinearOrder, walked. -/
import Derived.Test.YtedfidpmehamdaaHiI
import Derived.Test.YtedfidpmehamdaaHiJ
import Derived.Test.YtedfidpmehamdaaHiB
namespace Go.Proofs.Ytedfidpmehamdaa
open Go.ChangeShapes Go.WideShapes Go.ChangeAt Go.RowKit Go.Deep
set_option linter.unusedVariables false
set_option linter.unusedSimpArgs false

set_option maxRecDepth 100000 in
set_option maxHeartbeats 2000000 in
theorem specLinearOrder_any (v : Value) (l : List Op) (w : World) (h : Ops w v l) (hs : l.length ≤ 1048576) :
    Calls Try.prog 7 #[v] w fun e w' => ∃ r, e = .returned (.tuple #[r, .int .i64 (loOut l).2]) ∧ OwnI w.heap.size w' r (loOut l).1 ∧ Below w.heap.size w w' := by
  have HOF := hide (specOpsOK_any v l w h hs)
  have HOP := hide (fun (wx : World) (hb : Below w.heap.size w wx) => h.below hb)
  obtain ⟨la, lc, rfl, _, _, _⟩ := h
  by_cases h4 : 4096 < l.length
  · have E : loOut l = ([], 2) := by unfold loOut ofC; rw [if_pos h4]; rfl
    have h5 : (4096 : Int) < (l.length : Int) := by omega
    rw [E]
    go_enter Try.func7, Try.ntmps7
    go_wp2_with fail
    refine bodyPost_ret (v := .tuple #[.slice (some ⟨w.heap.size, 0, none⟩) 0 0, .int .i64 2]) (by simp [results, Try.results7, go_sem]) rfl ?_
    exact ⟨_, rfl, OwnI.empty w w.heap.size w.heap.size rfl (Nat.le_refl _), (Below.refl _ _).alloc (Nat.le_refl _) _⟩
  have h5 : ¬ (4096 : Int) < (l.length : Int) := by omega
  have HE : Hid (opsB l = false → loOut l = ([], 1)) := hide (fun hx => by unfold loOut ofC; rw [if_neg h4, hx]; rfl)
  have HZ : Hid (opsB l = true → ofC l = 0) := hide (fun hx => by unfold ofC; rw [if_neg h4, hx]; rfl)
  have HL7 := hide (fun (hx : opsB l = true) => (opsB_at hx).1)
  clear h4
  generalize hok : opsB l = ok at *
  clear hok
  cases ok with
  | false =>
    rw [unhide HE rfl]
    go_enter Try.func7, Try.ntmps7
    go_wp2_with fail
    refine (unhide HOF).mono ?_
    rintro e w1 ⟨rfl, hb1⟩
    have B1 := hide hb1
    clear hb1
    go_wp2_with fail
    refine bodyPost_ret (v := .tuple #[.slice (some ⟨w1.heap.size, 0, none⟩) 0 0, .int .i64 1]) (by simp [results, Try.results7, go_sem]) rfl ?_
    exact ⟨_, rfl, OwnI.empty w1 w.heap.size w1.heap.size rfl (unhide B1).size, (unhide B1).alloc (unhide B1).size _⟩
  | true =>
    have h0 := unhide HZ rfl
    have hl7 := unhide HL7 rfl
    have E1 : Hid (srch l (l.length + 1) [] ⟨#[]⟩ = none → loOut l = ([], 5)) := hide (fun hx => by unfold loOut; rw [if_neg (by omega), hx])
    have E2 : Hid (∀ r, srch l (l.length + 1) [] ⟨#[]⟩ = some r → loOut l = (r, 0)) := hide (fun r hx => by unfold loOut; rw [if_neg (by omega), hx])
    have HSE := hide (fun (ov : Value) (wx : World) (hb : Below w.heap.size w wx) (hi : Ints wx ov []) => l14Search_all la lc l hl7 (l.length + 1) [] ⟨#[]⟩ ov wx (unhide HOP wx hb) hi (Plc.nil _) (by simp))
    clear HE HZ h0
    generalize srch l (l.length + 1) [] ⟨#[]⟩ = R at *
    generalize loOut l = out at *
    go_enter Try.func7, Try.ntmps7
    go_wp2_with fail
    refine (unhide HOF).mono ?_
    rintro e w1 ⟨rfl, hb1⟩
    have B1 := hide (hb1.alloc hb1.size (.cells #[] 3))
    have O1 := hide (OwnI.empty w1 w.heap.size w1.heap.size rfl hb1.size)
    clear hb1
    go_wp2_with fail
    generalize w1.alloc (.cells #[] 3) = w2 at *
    refine (unhide HSE _ w2 (unhide B1) (unhide O1).ints).mono ?_
    rintro e w3 ⟨r, b, rfl, hS3, hb3⟩
    have B3 := hide ((unhide B1).trans (hb3.mono (unhide B1).size))
    rcases hS3 with ⟨hn, rfl⟩ | ⟨o', hso, rfl, hd⟩
    · have E := hide (unhide E1 hn)
      clear hn E1 E2 hb3
      go_wp2_with fail
      refine bodyPost_ret (v := .tuple #[.slice (some ⟨w3.heap.size, 0, none⟩) 0 0, .int .i64 5]) (by simp [results, Try.results7, go_sem]) rfl ?_
      exact ⟨_, by rw [unhide E], by rw [unhide E]; exact OwnI.empty w3 w.heap.size w3.heap.size rfl (unhide B3).size, (unhide B3).alloc (unhide B3).size _⟩
    · have E := hide (unhide E2 o' hso)
      have OO : Hid (OwnI w.heap.size w3 r o') := hide (by
        rcases hd with ⟨rfl, rfl⟩ | hd
        · exact (unhide O1).below hb3
        · exact OwnI.mono hd (unhide B1).size)
      clear hso hd E1 E2 hb3
      go_wp2_with fail
      refine bodyPost_ret (v := .tuple #[r, .int .i64 0]) (by simp [results, Try.results7, go_sem]) rfl ?_
      exact ⟨_, by rw [unhide E], by rw [unhide E]; exact unhide OO, unhide B3⟩
end Go.Proofs.Ytedfidpmehamdaa
