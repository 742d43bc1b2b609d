/- Histories: both Projected, walked. -/
import Derived.Test.YtedfidpmehamdaaHiB
import Derived.Test.YtedfidpmehamdaaScL
import Derived.Test.YtedfidpmehamdaaAppR
namespace Go.Proofs.Ytedfidpmehamdaa
open Go.ChangeShapes Go.WideShapes Go.ChangeAt Go.RowKit Go.Deep
set_option linter.unusedVariables false
set_option linter.unusedSimpArgs false

def prj (x y : Int) (l : List Op) : List Op := l.filter (fun f => inB f.bg x y)
def pjOut (l : List Op) (x y : Int) : List Op × Int := if 4096 < l.length then ([], 2) else if opsB l then (prj x y l, 0) else ([], 1)
theorem prj_len (x y : Int) (l : List Op) : (prj x y l).length ≤ l.length := List.length_filter_le _ _
theorem pjOut_len (l : List Op) (x y : Int) (hs : l.length ≤ 1048576) : (pjOut l x y).1.length ≤ 1048576 := by
  have := prj_len x y l
  unfold pjOut
  split
  · simp
  · split
    · show (prj x y l).length ≤ _
      omega
    · simp
theorem prj_succ (x y : Int) (l : List Op) (k : Nat) (h : k < l.length) : prj x y (l.take (k + 1)) = if inB (l.getD k default).bg x y then prj x y (l.take k) ++ [l.getD k default] else prj x y (l.take k) := by
  unfold prj
  rw [List.take_succ_eq_append_getElem h, List.filter_append, List.getD_eq_getElem?_getD, List.getElem?_eq_getElem h]
  simp only [Option.getD_some]
  split <;> simp_all
theorem op_rw (w : World) (f : Op) (ty : TypeId) : Rw (w.alloc (.cells #[.int .i64 f.bg, .int .i64 f.en, .bool f.wr, .string f.va] ty)) (.slice (some ⟨w.heap.size, 0, none⟩) 1 1) 1 (opC f) := by
  refine ⟨_, _, rfl, .inr ⟨_, rfl, fun j u hu => ?_⟩⟩
  have N := Blk.new w #[.int .i64 f.bg, .int .i64 f.en, .bool f.wr, .string f.va] ty w.heap.size rfl
  have hadd : (⟨w.heap.size, 0, none⟩ : Addr).add j = ⟨w.heap.size, j, none⟩ := by unfold Addr.add; split <;> simp_all
  rw [hadd]
  exact N.cell j hu
theorem op_push {B : Nat} {w : World} {v : Value} {l : List Op} {f : Op} (h : w.ownsRow B 39 4 v (l.length + 1) (opsC l ++ opC f)) : OwnOp B w v (l ++ [f]) := by
  unfold OwnOp
  rw [opsC_app, List.length_append, show opsC [f] = opC f from rfl]
  exact h

set_option maxRecDepth 100000 in
set_option maxHeartbeats 2000000 in
theorem specProjected_any (v : Value) (l : List Op) (x y : Int) (w : World) (h : Ops w v l) (hs : l.length ≤ 1048576) :
    Calls Try.prog 16 #[v, .int .i64 x, .int .i64 y] w fun e w' => ∃ r, e = .returned (.tuple #[r, .int .i64 (pjOut l x y).2]) ∧ OwnOp w.heap.size w' r (pjOut l x y).1 ∧ Below w.heap.size w w' := by
  obtain ⟨i0, hi, hz0, hz1, hz2⟩ := info_parts infoOp
  have HOK := hide (fun wx (hb : Below w.heap.size w wx) => specOpsOK_any v l wx (h.below hb) hs)
  obtain ⟨a, cap, rfl, hn, hm, hc⟩ := h
  have HC := hide hc
  clear hc hn hm
  by_cases h4 : 4096 < l.length
  · have hl2 : (4096 : Int) < (l.length : Int) := by omega
    have E : Hid (pjOut l x y = ([], 2)) := hide (by unfold pjOut; rw [if_pos h4])
    rw [unhide E]
    go_enter Try.func16, Try.ntmps16
    go_wp2_with fail
    refine bodyPost_ret (v := .tuple #[.slice (some ⟨w.heap.size, 0, none⟩) 0 0, .int .i64 2]) (by simp [results, Try.results16, go_sem]) rfl ?_
    exact ⟨_, rfl, World.ownsRow_made w #[] 0 (Nat.le_refl _) (by unfold maxLen; omega) rfl, (Below.refl _ _).alloc (Nat.le_refl _) _⟩
  have hl2 : ¬ (4096 : Int) < (l.length : Int) := by omega
  have E : Hid (pjOut l x y = if opsB l then (prj x y l, 0) else ([], 1)) := hide (by unfold pjOut; rw [if_neg h4])
  rw [unhide E]
  clear E
  generalize opsB l = ok at *
  go_enter Try.func16, Try.ntmps16
  go_wp2_with fail
  refine (unhide HOK w (Below.refl _ _)).mono ?_
  rintro e w1 ⟨rfl, hb1⟩
  have B1 := hide hb1
  clear hb1 HOK
  cases ok with
  | false =>
    go_wp2_with fail
    refine bodyPost_ret (v := .tuple #[.slice (some ⟨w1.heap.size, 0, none⟩) 0 0, .int .i64 1]) (by simp [results, Try.results16, go_sem]) rfl ?_
    exact ⟨_, rfl, World.ownsRow_made w1 #[] 0 (unhide B1).size (by unfold maxLen; omega) rfl, (unhide B1).alloc (unhide B1).size _⟩
  | true =>
    have O0 : Hid (OwnOp w.heap.size (w1.alloc (.cells #[] 39)) (.slice (some ⟨w1.heap.size, 0, none⟩) 0 0) (prj x y (l.take 0))) := hide (World.ownsRow_made w1 #[] 0 (unhide B1).size (by unfold maxLen; omega) rfl)
    have B2 := hide ((unhide B1).alloc (unhide B1).size (.cells #[] 39))
    go_wp2_with fail
    go_loopw [8, 9] (fun s i wr => ∃ (k : Nat), k ≤ l.length ∧ i = .int .i64 k ∧ OwnOp w.heap.size wr s (prj x y (l.take k)) ∧ Below w.heap.size w wr) (fun _ i _ => l.length - (intOf i).toNat)
    case atStart => exact ⟨0, Nat.zero_le _, rfl, unhide O0, unhide B2⟩
    case round =>
      obtain ⟨k, hk, rfl, hO, hb⟩ := hrel
      by_cases hlt : k < l.length
      · obtain ⟨b, off, rfl, hbl, hsrc⟩ : ∃ b off, a = some ⟨b, off, none⟩ ∧ b < w.heap.size ∧ ∀ i, i < l.length → w.cell? ⟨b, off + i * 4, none⟩ = some (.int .i64 (l.getD i default).bg) ∧ w.cell? ⟨b, off + i * 4 + 1, none⟩ = some (.int .i64 (l.getD i default).en) ∧ w.cell? ⟨b, off + i * 4 + 2, none⟩ = some (.bool (l.getD i default).wr) ∧ w.cell? ⟨b, off + i * 4 + 3, none⟩ = some (.string (l.getD i default).va) := by
          rcases unhide HC with h0 | h1
          · omega
          · exact h1
        obtain ⟨s0, s1, s2, s3⟩ := hsrc k hlt
        have c0 := (hb.cell (p := ⟨b, off + k * 4, none⟩) hbl).trans s0
        have c1 := (hb.cell (p := ⟨b, off + k * 4 + 1, none⟩) hbl).trans s1
        have c2 := (hb.cell (p := ⟨b, off + k * 4 + 2, none⟩) hbl).trans s2
        have c3 := (hb.cell (p := ⟨b, off + k * 4 + 3, none⟩) hbl).trans s3
        have hk0 : (0 : Int) ≤ (k : Int) := by omega
        have hk1 : (k : Int) < (l.length : Int) := by omega
        have HP := hide (prj_succ x y l k hlt)
        have hpl : (prj x y (l.take k)).length ≤ k := by have := prj_len x y (l.take k); rw [List.length_take] at this; omega
        have HB := hide hb
        have hbs := hb.size
        have HO := hide hO
        clear hb hsrc s0 s1 s2 s3 hO
        generalize l.getD k default = f at *
        generalize prj x y (l.take k) = pl at *
        have O4 : Hid ((wr.alloc (.cells #[.int .i64 f.bg, .int .i64 f.en, .bool f.wr, .string f.va] 39)).ownsRow w.heap.size 39 4 u8 pl.length (opsC pl)) := hide ((unhide HO).below ((Below.refl _ _).alloc (Nat.le_refl _) _))
        have HRW := hide (op_rw wr f 39)
        have H1C : Hid (∀ u ∈ opC f, u.oneCell' = true) := hide (by simp [opC, Value.oneCell'])
        have HPU := hide (fun (wx : World) (vx : Value) (hx : wx.ownsRow w.heap.size 39 4 vx (pl.length + 1) (opsC pl ++ opC f)) => op_push hx)
        obtain ⟨f0, f1, f2, f3⟩ := f
        dsimp only at c0 c1 c2 c3 O4 HRW HP
        go_wp2_with fail
        refine (l01In_any f0 x y _).mono ?_
        rintro e w3 ⟨rfl, hw3⟩
        subst w3
        by_cases hin : inB f0 x y = true
        · rw [hin] at HP ⊢
          clear hin
          have hBs : w.heap.size ≤ (wr.alloc (.cells #[.int .i64 f0, .int .i64 f1, .bool f2, .string f3] 39)).heap.size := by simp; omega
          go_wp2_with (at_builtin; refine wpList_append_row _ rfl _ _ _ rfl w.heap.size 39 i0 _ 4 40 Try.underlying23 hi hz0 hz1 hz2 rfl (by omega) _ pl.length (opsC pl) rfl (unhide O4) _ 1 (opC ⟨f0, f1, f2, f3⟩) rfl (unhide HRW) rfl (unhide H1C) (by unfold maxLen; omega) (by omega) hBs ?_; intro a6 c6 w6 hown6 hgrow6 hat6; have R6 := hide (And.intro (unhide HPU w6 _ hown6) (((unhide HB).alloc hbs _).grown hgrow6 (by simp; omega) (fun r hr => (World.ownsRow.lt (unhide HO) r hr).1))); clear hown6 hgrow6 hat6)
          refine ⟨⟨k + 1, by omega, by go_num, by rw [unhide HP]; exact (unhide R6).1, (unhide R6).2⟩, ?_⟩
          simp [intOf]; omega
        · have h3 : inB f0 x y = false := by simpa using hin
          rw [h3] at HP ⊢
          go_wp2_with fail
          refine ⟨⟨k + 1, by omega, by go_num, by rw [unhide HP]; exact unhide HO, unhide HB⟩, ?_⟩
          simp [intOf]; omega
      · obtain rfl : k = l.length := by omega
        rw [List.take_length] at hO
        have R := hide (And.intro hO hb)
        clear hO hb
        go_wp2_with fail
        refine bodyPost_ret (v := .tuple #[u8, .int .i64 0]) (by simp [results, Try.results16, go_sem]) rfl ?_
        exact ⟨_, rfl, (unhide R).1, (unhide R).2⟩
set_option maxRecDepth 100000 in
set_option maxHeartbeats 2000000 in
theorem implProjected_any (v : Value) (l : List Op) (x y : Int) (w : World) (h : Ops w v l) (hs : l.length ≤ 1048576) (hsz : ∀ i, (l.getD i default).va.size ≤ 1048576) :
    Calls Try.prog 15 #[v, .int .i64 x, .int .i64 y] w fun e w' => ∃ r, e = .returned (.tuple #[r, .int .i64 (pjOut l x y).2]) ∧ OwnOp w.heap.size w' r (pjOut l x y).1 ∧ Below w.heap.size w w' := by
  obtain ⟨i0, hi, hz0, hz1, hz2⟩ := info_parts infoOp
  have HOK := hide (opsFault_any v l w h hs)
  obtain ⟨a, cap, rfl, hn, hm, hc⟩ := h
  have HC := hide hc
  have HSZ := hide hsz
  clear hc hn hm hsz
  have E : Hid ((ofC l ≠ 0 ∧ pjOut l x y = ([], ofC l)) ∨ (ofC l = 0 ∧ l.length ≤ 7 ∧ pjOut l x y = (prj x y l, 0))) := hide (by
    unfold pjOut ofC
    by_cases h4 : 4096 < l.length
    · rw [if_pos h4, if_pos h4]; simp
    · rw [if_neg h4, if_neg h4]
      by_cases h1 : opsB l = true
      · have := (opsB_at h1).1
        simp [h1, this]
      · simp [h1])
  generalize ofC l = cd at *
  rcases unhide E with ⟨hcd, e2⟩ | ⟨hcd, hl7, e2⟩
  · have hb : (cd != 0) = true := by simpa using hcd
    clear E hcd
    rw [e2]
    clear e2
    go_enter Try.func15, Try.ntmps15
    go_wp2_with fail
    refine (unhide HOK).mono ?_
    rintro e w1 ⟨rfl, hb1⟩
    have B1 := hide hb1
    clear hb1 HOK
    go_wp2_with fail
    refine bodyPost_ret (v := .tuple #[.slice none 0 0, .int .i64 cd]) (by simp [results, Try.results15, go_sem]) rfl ?_
    exact ⟨_, rfl, OwnOp.nil _ _, unhide B1⟩
  · subst hcd
    clear E
    rw [e2]
    clear e2
    go_enter Try.func15, Try.ntmps15
    go_wp2_with fail
    refine (unhide HOK).mono ?_
    rintro e w1 ⟨rfl, hb1⟩
    have B1 := hide hb1
    clear hb1 HOK
    have O0 : Hid (OwnOp w.heap.size w1 (.slice none 0 0) (prj x y (l.take 0))) := hide (OwnOp.nil _ _)
    go_wp2_with fail
    go_loopw [9, 19] (fun s i wr => ∃ (k : Nat), k ≤ l.length ∧ i = .int .i64 k ∧ OwnOp w.heap.size wr s (prj x y (l.take k)) ∧ Below w.heap.size w wr) (fun _ i _ => l.length - (intOf i).toNat)
    case atStart => exact ⟨0, Nat.zero_le _, rfl, unhide O0, unhide B1⟩
    case round =>
      obtain ⟨k, hk, rfl, hO, hb⟩ := hrel
      by_cases hlt : k < l.length
      · obtain ⟨b, off, rfl, hbl, hsrc⟩ : ∃ b off, a = some ⟨b, off, none⟩ ∧ b < w.heap.size ∧ ∀ i, i < l.length → w.cell? ⟨b, off + i * 4, none⟩ = some (.int .i64 (l.getD i default).bg) ∧ w.cell? ⟨b, off + i * 4 + 1, none⟩ = some (.int .i64 (l.getD i default).en) ∧ w.cell? ⟨b, off + i * 4 + 2, none⟩ = some (.bool (l.getD i default).wr) ∧ w.cell? ⟨b, off + i * 4 + 3, none⟩ = some (.string (l.getD i default).va) := by
          rcases unhide HC with h0 | h1
          · omega
          · exact h1
        obtain ⟨s0, s1, s2, s3⟩ := hsrc k hlt
        have c0 := (hb.cell (p := ⟨b, off + k * 4, none⟩) hbl).trans s0
        have c1 := (hb.cell (p := ⟨b, off + k * 4 + 1, none⟩) hbl).trans s1
        have c2 := (hb.cell (p := ⟨b, off + k * 4 + 2, none⟩) hbl).trans s2
        have c3 := (hb.cell (p := ⟨b, off + k * 4 + 3, none⟩) hbl).trans s3
        have hk0 : (0 : Int) ≤ (k : Int) := by omega
        have hk1 : (k : Int) < (l.length : Int) := by omega
        have HP := hide (prj_succ x y l k hlt)
        have hpl : (prj x y (l.take k)).length ≤ k := by have := prj_len x y (l.take k); rw [List.length_take] at this; omega
        have HB := hide hb
        have hbs := hb.size
        have HO := hide hO
        have HSK := hide (unhide HSZ k)
        clear hb hsrc s0 s1 s2 s3 hO
        generalize l.getD k default = f at *
        generalize prj x y (l.take k) = pl at *
        have H1C : Hid (∀ u ∈ opC f, u.oneCell' = true) := hide (by simp [opC, Value.oneCell'])
        have HPU := hide (fun (wx : World) (vx : Value) (hx : wx.ownsRow w.heap.size 39 4 vx (pl.length + 1) (opsC pl ++ opC f)) => op_push hx)
        obtain ⟨f0, f1, f2, f3⟩ := f
        dsimp only at c0 c1 c2 c3 HP HSK
        have HCL := hide (fun wx => strClone_any f3 wx (unhide HSK))
        have X0 := hide (Blk.new wr #[.int .i64 f0, .int .i64 f1, .bool f2, .string f3] 39 wr.heap.size rfl)
        have BW0 := hide ((unhide HB).alloc hbs (.cells #[.int .i64 f0, .int .i64 f1, .bool f2, .string f3] 39))
        have O0 := hide ((unhide HO).below ((Below.refl wr.heap.size wr).alloc (Nat.le_refl _) (.cells #[.int .i64 f0, .int .i64 f1, .bool f2, .string f3] 39)))
        go_wp2_with fail
        refine (within_any f0 x y _).mono ?_
        rintro e w3 ⟨rfl, hw3⟩
        subst w3
        by_cases hin : inB f0 x y = true
        · rw [hin] at HP ⊢
          clear hin
          go_wp2_with fail
          generalize wr.alloc (.cells #[.int .i64 f0, .int .i64 f1, .bool f2, .string f3] 39) = wA at *
          refine (unhide HCL wA).mono ?_
          rintro e wB ⟨rfl, hbB⟩
          have XB := (unhide X0).below hbB
          have BB := (unhide BW0).trans (hbB.mono (unhide BW0).size)
          have OB := (unhide O0).below hbB
          have hbl2 : wr.heap.size < wB.heap.size := XB.1
          have hne : ∀ q, u9.ownBlock = some q → ¬ q = wr.heap.size := fun q hq e => by
            have h9 := ((unhide HO).lt q hq).2
            omega
          have x3 := XB.cell 3 rfl
          have y3 := XB.fro 3
          have XC := XB.set 3 (.string f3) (by simp)
          have BC := hide (BB.setCell (p := ⟨wr.heap.size, 3, none⟩) hbs (.string f3))
          have OC := hide (OB.kept (T := fun q => q = wr.heap.size) ((Touch.refl _ wB).setCell ⟨wr.heap.size, 3, none⟩ (.string f3) (fun _ => rfl)) hne)
          have k0 := XC.cell 0 rfl
          have k1 := XC.cell 1 rfl
          have k2 := XC.cell 2 rfl
          have k3 := XC.cell 3 rfl
          clear hbB XB BB OB XC hne X0 BW0 O0 HCL HSK
          have O4 : Hid (((wB.setCell ⟨wr.heap.size, 3, none⟩ (.string f3)).alloc (.cells #[.int .i64 f0, .int .i64 f1, .bool f2, .string f3] 39)).ownsRow w.heap.size 39 4 u9 pl.length (opsC pl)) := hide ((unhide OC).below ((Below.refl _ _).alloc (Nat.le_refl _) _))
          have HRW := hide (op_rw (wB.setCell ⟨wr.heap.size, 3, none⟩ (.string f3)) ⟨f0, f1, f2, f3⟩ 39)
          rw [show (wB.setCell ⟨wr.heap.size, 3, none⟩ (.string f3)).heap.size = wB.heap.size by simp] at HRW
          have hBs : w.heap.size ≤ ((wB.setCell ⟨wr.heap.size, 3, none⟩ (.string f3)).alloc (.cells #[.int .i64 f0, .int .i64 f1, .bool f2, .string f3] 39)).heap.size := by have := (unhide BC).size; simp at this ⊢; omega
          have HBD := hide ((unhide BC).alloc (unhide BC).size (.cells #[.int .i64 f0, .int .i64 f1, .bool f2, .string f3] 39))
          go_wp2_with (at_builtin; refine wpList_append_row _ rfl _ _ _ rfl w.heap.size 39 i0 _ 4 40 Try.underlying23 hi hz0 hz1 hz2 rfl (by omega) _ pl.length (opsC pl) rfl (unhide O4) _ 1 (opC ⟨f0, f1, f2, f3⟩) rfl (unhide HRW) rfl (unhide H1C) (by unfold maxLen; omega) (by omega) hBs ?_; intro a6 c6 w6 hown6 hgrow6 hat6; have R6 := hide (And.intro (unhide HPU w6 _ hown6) ((unhide HBD).grown hgrow6 hBs (fun r hr => (World.ownsRow.lt (unhide HO) r hr).1))); clear hown6 hgrow6 hat6)
          refine ⟨⟨k + 1, by omega, by go_num, by rw [unhide HP]; exact (unhide R6).1, (unhide R6).2⟩, ?_⟩
          simp [intOf]; omega
        · have h3 : inB f0 x y = false := by simpa using hin
          rw [h3] at HP ⊢
          go_wp2_with fail
          refine ⟨⟨k + 1, by omega, by go_num, by rw [unhide HP]; exact unhide O0, unhide BW0⟩, ?_⟩
          simp [intOf]; omega
      · obtain rfl : k = l.length := by omega
        rw [List.take_length] at hO
        have R := hide (And.intro hO hb)
        clear hO hb
        go_wp2_with fail
        refine bodyPost_ret (v := .tuple #[u9, .int .i64 0]) (by simp [results, Try.results15, go_sem]) rfl ?_
        exact ⟨_, rfl, (unhide R).1, (unhide R).2⟩
end Go.Proofs.Ytedfidpmehamdaa
