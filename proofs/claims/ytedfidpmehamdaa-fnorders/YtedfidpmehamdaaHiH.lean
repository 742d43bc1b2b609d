/- Histories: the search of the program (a closure that calls itself), walked. -/
import Derived.Test.YtedfidpmehamdaaHiR
import Derived.Test.YtedfidpmehamdaaHiD
import Derived.Deep.RegionHeld3
namespace Go.Proofs.Ytedfidpmehamdaa
open Go.ChangeShapes Go.WideShapes Go.ChangeAt Go.RowKit Go.Deep
set_option linter.unusedVariables false
set_option linter.unusedSimpArgs false

/-- What a search answers. -/
def SrR (B : Nat) (w' : World) (ov : Value) (o : List Int) (r : Value) (b : Bool) (res : Option (List Int)) : Prop :=
  (res = none ∧ b = false) ∨ ∃ o', res = some o' ∧ b = true ∧ ((r = ov ∧ o' = o) ∨ OwnI B w' r o')
theorem OrdV.len4 {n : Nat} {o : List Int} (h : Plc n o) (h7 : n ≤ 7) : o.length ≤ 4096 := by have := h.len; omega
set_option maxRecDepth 100000 in
set_option maxHeartbeats 4000000 in
theorem search_any (la : Option Addr) (lc : Nat) (l : List Op) (hs : opsB l = true) (LB SB : Nat) : ∀ (n : Nat) (o : List Int) (va : ByteArray) (ov : Value) (w : World),
    Ops w (.slice la l.length lc) l → w.cell? ⟨LB, 0, none⟩ = some (.slice la l.length lc) → w.cell? ⟨SB, 0, none⟩ = some (.func (.func 37) #[] #[.pointer (some ⟨LB, 0, none⟩), .pointer (some ⟨SB, 0, none⟩)]) → LB < w.heap.size → SB < w.heap.size → OrdV w ov o → Plc l.length o → l.length < n + o.length →
    Calls Try.prog 37 #[.agg #[.slice la l.length lc, ov, .string va], .pointer (some ⟨LB, 0, none⟩), .pointer (some ⟨SB, 0, none⟩)] w fun e w' => ∃ r b, e = .returned (.tuple #[r, .bool b]) ∧ SrR w.heap.size w' ov o r b (srch l n o va) ∧ Below w.heap.size w w'
  | 0, o, va, ov, w, _, _, _, _, _, _, hp, hn => by have := hp.len; omega
  | n + 1, o, va, ov, w, hl, hcL, hcS, hLB, hSB, hov, hp, hn => by
    have IH := hide (search_any la lc l hs LB SB n)
    have hl7 := (opsB_at hs).1
    have ho4 := OrdV.len4 hp hl7
    have HOP := hide (fun (wx : World) (hb : Below w.heap.size w wx) => hl.below hb)
    have HOV := hide (fun (wx : World) (hb : Below w.heap.size w wx) => hov.below hb)
    obtain ⟨oa, oc, rfl⟩ := hov.shape
    have HCL := hide (fun (wx : World) (hb : Below w.heap.size w wx) => (hb.cell (p := ⟨LB, 0, none⟩) hLB).trans hcL)
    have HCS := hide (fun (wx : World) (hb : Below w.heap.size w wx) => (hb.cell (p := ⟨SB, 0, none⟩) hSB).trans hcS)
    have HWH := hide (fun (wx : World) (hb : Below w.heap.size w wx) => whole_any la lc l oa o.length oc va o wx (unhide HOP wx hb) hs (unhide HOV wx hb).ints ho4)
    have HMT := hide (fun (p : Nat) (hp : p < l.length) (wx : World) (hb : Below w.heap.size w wx) => mayTake_any la lc l oa o.length oc va o p hp wx (unhide HOP wx hb) hs (unhide HOV wx hb).ints ho4)
    have HWI := hide (fun (p : Nat) (hp : p < l.length) (wx : World) (hb : Below w.heap.size w wx) => with_any la lc l _ va o p hp wx (unhide HOP wx hb) (unhide HOV wx hb) ho4 hl7)
    have HP := hide hp
    have HN := hide hn
    have S1 := hide (@srch_whole l n o va)
    have S2 := hide (fun k r => @srch_some l n o va k r)
    have S3 := hide (@srch_none l n o va)
    generalize srch l (n + 1) o va = R at *
    generalize hwb : wholeB l o = wb at *
    clear hwb
    have B0 := hide ((Below.refl w.heap.size w).alloc (Nat.le_refl _) (.cells #[.slice la l.length lc, .slice oa o.length oc, .string va] 65))
    have X0 := hide (Blk.new w #[.slice la l.length lc, .slice oa o.length oc, .string va] 65 w.heap.size rfl)
    clear hl hcL hcS hov hp hn
    go_enter Try.func37, Try.ntmps37
    go_wp2_with fail
    generalize w.alloc (.cells #[.slice la l.length lc, .slice oa o.length oc, .string va] 65) = w0 at *
    refine (unhide HWH w0 (unhide B0)).mono ?_
    rintro e w1 ⟨rfl, hb1⟩
    have B1 := hide ((unhide B0).trans (hb1.mono (unhide B0).size))
    have X1 := hide ((unhide X0).below hb1)
    clear hb1 B0 X0 HWH
    have x1 := (unhide X1).cell 1 rfl
    have xl := unhide HCL w1 (unhide B1)
    cases wb with
    | true =>
      have E := hide (unhide S1 rfl)
      go_wp2_with fail
      refine bodyPost_ret (v := .tuple #[.slice oa o.length oc, .bool true]) (by simp [results, Try.results37, go_sem]) rfl ?_
      exact ⟨_, _, rfl, .inr ⟨o, unhide E, rfl, .inl ⟨rfl, rfl⟩⟩, unhide B1⟩
    | false =>
      have S2' := hide (fun k r => unhide S2 k r rfl)
      have S3' := hide (unhide S3 rfl)
      clear S1 S2 S3
      go_wp2_with fail
      go_loopw [15] (fun i wr => ∃ k : Nat, k ≤ l.length ∧ i = .int .i64 k ∧ Hid (∀ j, j < k → srchAt l n o va j = none) ∧ Blk wr w.heap.size [.slice la l.length lc, .slice oa o.length oc, .string va] ∧ Below w.heap.size w wr) (fun i _ => l.length - (intOf i).toNat)
      case atStart => exact ⟨0, Nat.zero_le _, rfl, fun j hj => absurd hj (Nat.not_lt_zero _), unhide X1, unhide B1⟩
      case round =>
        obtain ⟨k, hk, rfl, HGO, hX, hb⟩ := hrel
        by_cases hlt : k < l.length
        · have hk0 : (0 : Int) ≤ (k : Int) := by omega
          have hk1 : (k : Int) < (l.length : Int) := by omega
          have y0 := hX.cell 0 rfl
          have y1 := hX.cell 1 rfl
          have y2 := hX.cell 2 rfl
          have HM := hide (unhide HMT k hlt wr hb)
          have HAT : Hid (srchAt l n o va k = if mayB l o va k = true then srch l n (o ++ [(k : Int)]) (nextV (l.getD k default) va) else none) := rfl
          have HPN := hide (fun (h : mayB l o va k = true) => (unhide HP).snoc hlt (may_not h))
          have HB := hide hb
          have HX := hide hX
          have HNX := hide (fun (hx : srchAt l n o va k = none) => show ∀ j, j < k + 1 → srchAt l n o va j = none from fun j hj => by
            by_cases e : j = k
            · subst e; exact hx
            · exact unhide HGO j (by omega))
          have HSO := hide (fun r => unhide S2' k r hlt (unhide HGO))
          clear hb hX HGO
          generalize mayB l o va k = mb at *
          go_wp2_with fail
          refine (unhide HM).mono ?_
          rintro e w3 ⟨rfl, hb3⟩
          have HB3 := hide ((unhide HB).trans (hb3.mono (unhide HB).size))
          have HX3 := hide ((unhide HX).below hb3)
          clear hb3 HM y0 y1 y2
          cases mb with
          | false =>
            have E := hide (unhide HNX (by rw [unhide HAT]; rfl))
            go_wp2_with fail
            refine ⟨⟨k + 1, by omega, by go_num, E, unhide HX3, unhide HB3⟩, ?_⟩
            simp [intOf]; omega
          | true =>
            have HAT2 : Hid (srchAt l n o va k = srch l n (o ++ [(k : Int)]) (nextV (l.getD k default) va)) := hide (by rw [unhide HAT]; rfl)
            have HPL := hide (unhide HPN rfl)
            have y0 := (unhide HX3).cell 0 rfl
            have y1 := (unhide HX3).cell 1 rfl
            have y2 := (unhide HX3).cell 2 rfl
            have ys := unhide HCS w3 (unhide HB3)
            have HD3 := hide (below_drewN (Below.refl w3.heap.size w3) 1)
            have HB3d := hide ((unhide HB3).trans ((unhide HD3).mono (unhide HB3).size))
            have HW := hide (unhide HWI k hlt w3.drew (unhide HB3d))
            have hz3 := (unhide HX3).1
            generalize l.getD k default = fk at *
            have hs3 := (unhide HB3).size
            go_wp2_with fail
            go_region_held3 (fun wx => wx.cell? ⟨SB, 0, none⟩ = some (.func (.func 37) #[] #[.pointer (some ⟨LB, 0, none⟩), .pointer (some ⟨SB, 0, none⟩)]) ∧ wx.cell? ⟨w.heap.size, 0, none⟩ = some (.slice la l.length lc) ∧ wx.cell? ⟨w.heap.size, 1, none⟩ = some (.slice oa o.length oc) ∧ wx.cell? ⟨w.heap.size, 2, none⟩ = some (.string va))
              (first | go_keep | exact ⟨(hb6.cell (p := ⟨SB, 0, none⟩) hq5.1).trans C5.1, (hb6.cell (p := ⟨w.heap.size, 0, none⟩) hq5.2).trans C5.2.1, (hb6.cell (p := ⟨w.heap.size, 1, none⟩) hq5.2).trans C5.2.2.1, (hb6.cell (p := ⟨w.heap.size, 2, none⟩) hq5.2).trans C5.2.2.2⟩ | exact C5)
              (first
                | (go_at_call 37; refine (unhide IH (o ++ [(k : Int)]) _ r5 w5 (unhide HOP w5 hB5) (unhide HCL w5 hB5) (unhide HCS w5 hB5) (Nat.lt_of_lt_of_le hLB hB5.size) (Nat.lt_of_lt_of_le hSB hB5.size) (ordV_own hO5 hr5) (unhide HPL) (by have := unhide HN; rw [List.length_append]; simp; omega)).mono ?_; rintro e w6 ⟨r6, b6, rfl, hS6, hb6⟩)
                | (go_at_call 40; refine (unhide HW).mono ?_; rintro e w5 ⟨r5, rfl, hO5, hr5, hb5⟩; have hB5 := (unhide HB3d).trans (hb5.mono (unhide HB3d).size); have hd3 : w3.heap.size ≤ w5.heap.size := hb5.size; have hq5 : SB < w5.heap.size ∧ w.heap.size < w5.heap.size := ⟨by omega, by omega⟩; have X5 := ((unhide HX3).below (unhide HD3)).below hb5; have C5 := And.intro (unhide HCS w5 hB5) (And.intro (X5.cell 0 rfl) (And.intro (X5.cell 1 rfl) (X5.cell 2 rfl)))))
            all_goals
              have HX6 := hide (X5.below hb6)
              have HB6 := hide (hB5.trans (hb6.mono hB5.size))
              rcases hS6 with ⟨hn6, rfl⟩ | ⟨o', hso, rfl, hd⟩
              · have E := hide (unhide HNX ((unhide HAT2).trans hn6))
                clear hb5 hb6 hB5 hO5 hr5 C5 X5 y0 y1 y2 ys hn6
                go_wp2_with fail
                refine ⟨⟨k + 1, by omega, by go_num, E, unhide HX6, unhide HB6⟩, ?_⟩
                simp [intOf]; omega
              · have E := hide (unhide HSO o' ((unhide HAT2).trans hso))
                have OO : Hid (OwnI w.heap.size w6 r6 o') := hide (by
                  rcases hd with ⟨rfl, rfl⟩ | hd
                  · exact OwnI.mono (hO5.below hb6) (by simp; omega)
                  · exact OwnI.mono hd (by omega))
                clear hb5 hb6 hB5 hO5 hr5 C5 X5 y0 y1 y2 ys hso hd
                go_wp2_with fail
                refine bodyPost_ret (v := .tuple #[r6, .bool true]) (by simp [results, Try.results37, go_sem]) rfl ?_
                exact ⟨_, _, rfl, .inr ⟨o', unhide E, rfl, .inr (unhide OO)⟩, unhide HB6⟩
        · obtain rfl : k = l.length := by omega
          have E := hide (unhide S3' (unhide HGO))
          have HB := hide hb
          clear hb hX
          go_wp2_with fail
          refine bodyPost_ret (v := .tuple #[.slice none 0 0, .bool false]) (by simp [results, Try.results37, go_sem]) rfl ?_
          exact ⟨_, _, rfl, .inl ⟨unhide E, rfl⟩, unhide HB⟩
end Go.Proofs.Ytedfidpmehamdaa
