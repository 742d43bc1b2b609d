/- The source of choices of the laws: what byte, next and bytes may answer, whatever the code. The source of choices of the laws: bytes, and BytesOf. A source of choices: pick and chance (out of SrcC, for cuts without commands). A source of choices: keys of maps, data, sizes. strconv.Itoa of a number below 100: by the library's own contract of internal/strconv.small, laid at this program; the three functions above it walked. Short forms of the steps of a region that draws (claims are bounded in size). spec.l00Digits of a number below 100. A drawn map (spec.branch), a drawn key. MapOf, MapKeyOf: a drawn map, a drawn key, of bytes that came in. -/
import Derived.Test.YtnajpeaieeaflaaDoorBytes
import Derived.StillTail
import Derived.Deep.RegionHeld3
import Derived.Test.YtnajpeaieeaflaaDoorBlk
import Derived.Test.YtnajpeaieeaflaaDoorGxB
import Derived.Test.YtnajpeaieeaflaaDoorIn
import Derived.Shelf.Strconv.Itoa1
import Derived.Test.YtnajpeaieeaflaaDoorBase
import Derived.Test.YtnajpeaieeaflaaDoorSet4
import Derived.Deep.RegionLaw
import Derived.Deep.Cut
import Derived.Deep.CutBlock
namespace Go.Proofs.YtnajpeaieeaflaaDoor
open Go.ChangeShapes Go.WideShapes Go.ChangeAt Go.RowKit
set_option linter.unusedVariables false

theorem wrapS (n : Int) (h0 : 0 ≤ n) (h1 : n < 9223372036854775808) : IntKind.i64.wrap n = n := by
  simp only [IntKind.wrap, IntKind.bits, IntKind.signed]
  simp
  omega
/-- A source lies in block b: the code's bytes l (in a block below b), a place of at most M, a seed in range. -/
def Src (w : World) (b : Nat) (a : Option Addr) (cap : Nat) (l : List Int) (M : Int) : Prop :=
  ∃ p s : Int, 0 ≤ p ∧ p ≤ M ∧ 0 ≤ s ∧ s < 2147483648 ∧ w.cell? ⟨b, 0, none⟩ = some (.slice a l.length cap) ∧ w.cell? ⟨b, 1, none⟩ = some (.int .i64 p) ∧ w.cell? ⟨b, 2, none⟩ = some (.int .i64 s) ∧
    (∀ j, w.frozen? ⟨b, j, none⟩ = false) ∧ b < w.heap.size ∧
    (l.length = 0 ∨ ∃ c off, a = some ⟨c, off, none⟩ ∧ c < b ∧ ∀ i, i < l.length → w.cell? ⟨c, off + i, none⟩ = some (.int .u8 (l.getD i 0))) ∧ (∀ i, 0 ≤ l.getD i 0 ∧ l.getD i 0 ≤ 255) ∧ l.length ≤ 2097152

theorem Src.mono {w : World} {b : Nat} {a : Option Addr} {cap : Nat} {l : List Int} {M M' : Int} (h : Src w b a cap l M) (hm : M ≤ M') : Src w b a cap l M' := by
  obtain ⟨p, s, h1, h2, h⟩ := h
  exact ⟨p, s, h1, by omega, h⟩
theorem Src.grown {w w' : World} {b : Nat} {a : Option Addr} {cap : Nat} {l : List Int} {M : Int} {r : Option Nat} (h : Src w b a cap l M) (hg : w.grownBy w' r) (hr : ∀ k, r = some k → b < k) : Src w' b a cap l M := by
  obtain ⟨p, s, h1, h2, h3, h4, c0, c1, c2, hf, hb, hc, hrg, hl⟩ := h
  have hne : some b ≠ r := fun e => by have := hr b e.symm; omega
  refine ⟨p, s, h1, h2, h3, h4, (hg.cell_far ⟨b, 0, none⟩ hb hne).trans c0, (hg.cell_far ⟨b, 1, none⟩ hb hne).trans c1, (hg.cell_far ⟨b, 2, none⟩ hb hne).trans c2, fun j => (hg.frozen_far ⟨b, j, none⟩ hb hne).trans (hf j), Nat.lt_of_lt_of_le hb hg.size, ?_, hrg, hl⟩
  rcases hc with h0 | ⟨c, off, ha, hlt, hcell⟩
  · exact .inl h0
  · refine .inr ⟨c, off, ha, hlt, fun i hi => ?_⟩
    rw [hg.cell_far ⟨c, off + i, none⟩ (by simpa using Nat.lt_trans hlt hb) (fun e => by have := hr c e.symm; omega)]
    exact hcell i hi
theorem Src.drewN {w : World} {b : Nat} {a : Option Addr} {cap : Nat} {l : List Int} {M : Int} (h : Src w b a cap l M) (n : Nat) : Src (w.drewN n) b a cap l M := h.grown (r := none) ⟨rfl, rfl, rfl, Nat.le_refl _, fun _ _ _ => rfl⟩ (fun k e => by cases e)

/-- What a call on the source leaves: nothing but block b is other than it was. -/
def OnlyAt (b : Nat) (w w' : World) : Prop := w'.heap.size = w.heap.size ∧ w.grownBy w' (some b)
theorem OnlyAt.refl (b : Nat) (w : World) : OnlyAt b w w := ⟨rfl, World.grownBy.refl _ _⟩
theorem OnlyAt.trans {b : Nat} {w w' w'' : World} (h : OnlyAt b w w') (k : OnlyAt b w' w'') : OnlyAt b w w'' := by
  refine ⟨k.1.trans h.1, ?_⟩
  have h1 := h.2
  have h2 := k.2
  exact ⟨h2.os.trans h1.os, h2.tape.trans h1.tape, h2.output.trans h1.output, Nat.le_trans h1.size h2.size, fun j hj hne => (h2.block j (by rw [h.1]; exact hj) hne).trans (h1.block j hj hne)⟩
theorem OnlyAt.set (b : Nat) (w : World) (j : Nat) (v : Value) : OnlyAt b w (w.setCell ⟨b, j, none⟩ v) := by
  refine ⟨by simp, ⟨rfl, rfl, rfl, by simp, fun k hk hne => Below.heap_setCell w ⟨b, j, none⟩ v k (fun e => hne (by rw [e]))⟩⟩
theorem OnlyAt.drewN (b : Nat) (w : World) (n : Nat) : OnlyAt b w (w.drewN n) := ⟨rfl, ⟨rfl, rfl, rfl, Nat.le_refl _, fun _ _ _ => rfl⟩⟩
theorem OnlyAt.below {b B : Nat} {w0 w w' : World} (h : OnlyAt b w w') (hb : Below B w0 w) (hB : B ≤ b) (hw : B ≤ w.heap.size) : Below B w0 w' := hb.grown h.2 hw (fun k e => by cases e; exact hB)

theorem Src.step2 {w : World} {b : Nat} {a : Option Addr} {cap : Nat} {l : List Int} {M : Int} {s' : Int} (h : Src w b a cap l M) (hs : 0 ≤ s') (hs2 : s' < 2147483648) :
    Src (w.setCell ⟨b, 2, none⟩ (.int .i64 s')) b a cap l M := by
  obtain ⟨p, s0, h1, h2, h3, h4, c0, c1, c2, hf, hb, hc, hrg, hl⟩ := h
  refine ⟨p, s', h1, h2, hs, hs2, ?_, ?_, ?_, fun j => by simpa using hf j, by simpa using hb, ?_, hrg, hl⟩
  · rw [World.cell?_setCell_other _ _ _ _ (by simp)]; exact c0
  · rw [World.cell?_setCell_other _ _ _ _ (by simp)]; exact c1
  · exact World.cell?_setCell_same w _ _ c2
  · rcases hc with h0 | ⟨c, off, ha, hlt, hcell⟩
    · exact .inl h0
    · refine .inr ⟨c, off, ha, hlt, fun i hi => ?_⟩
      rw [World.cell?_setCell_other _ _ _ _ (fun e => by have := congrArg Addr.block e; simp at this; omega)]
      exact hcell i hi
theorem Src.step1 {w : World} {b : Nat} {a : Option Addr} {cap : Nat} {l : List Int} {M : Int} {p' : Int} (h : Src w b a cap l M) (hp : 0 ≤ p') (hp2 : p' ≤ M + 1) :
    Src (w.setCell ⟨b, 1, none⟩ (.int .i64 p')) b a cap l (M + 1) := by
  obtain ⟨_, s, h1, h2, h3, h4, c0, c1, c2, hf, hb, hc, hrg, hl⟩ := h
  refine ⟨p', s, hp, hp2, h3, h4, ?_, ?_, ?_, fun j => by simpa using hf j, by simpa using hb, ?_, hrg, hl⟩
  · rw [World.cell?_setCell_other _ _ _ _ (by simp)]; exact c0
  · exact World.cell?_setCell_same w _ _ c1
  · rw [World.cell?_setCell_other _ _ _ _ (by simp)]; exact c2
  · rcases hc with h0 | ⟨c, off, ha, hlt, hcell⟩
    · exact .inl h0
    · refine .inr ⟨c, off, ha, hlt, fun i hi => ?_⟩
      rw [World.cell?_setCell_other _ _ _ _ (fun e => by have := congrArg Addr.block e; simp at this; omega)]
      exact hcell i hi

set_option maxRecDepth 100000 in
set_option maxHeartbeats 1000000 in
theorem srcByte_any (w : World) (b : Nat) (a : Option Addr) (cap : Nat) (l : List Int) (M : Int) (h : Src w b a cap l M) (hM : M ≤ 1000000000) :
    Calls Tryd.prog 72 #[.pointer (some ⟨b, 0, none⟩)] w fun e w' => ∃ x : Int, e = .returned (.int .i64 x) ∧ 0 ≤ x ∧ x ≤ 255 ∧ Src w' b a cap l (M + 1) ∧ OnlyAt b w w' := by
  have H := hide h
  obtain ⟨p, s, h1, h2, h3, h4, c0, c1, c2, hf, hb, hc, hrg, hl⟩ := h
  have f0 := hf 0
  have f1 := hf 1
  have f2 := hf 2
  have d0 : (w.setCell ⟨b, 1, none⟩ (.int .i64 (p + 1))).cell? ⟨b, 0, none⟩ = some (.slice a l.length cap) := by rw [World.cell?_setCell_other _ _ _ _ (by simp)]; exact c0
  have d1 : (w.setCell ⟨b, 1, none⟩ (.int .i64 (p + 1))).cell? ⟨b, 1, none⟩ = some (.int .i64 (p + 1)) := World.cell?_setCell_same w _ _ c1
  have d2 : (w.setCell ⟨b, 1, none⟩ (.int .i64 (p + 1))).cell? ⟨b, 2, none⟩ = some (.int .i64 s) := by rw [World.cell?_setCell_other _ _ _ _ (by simp)]; exact c2
  by_cases hlt : p + 1 ≤ (l.length : Int)
  · obtain ⟨q, rfl⟩ : ∃ q : Nat, p = (q : Int) := ⟨p.toNat, by omega⟩
    obtain ⟨c, off, rfl, hcl, hsrc⟩ : ∃ c off, a = some ⟨c, off, none⟩ ∧ c < b ∧ ∀ i, i < l.length → w.cell? ⟨c, off + i, none⟩ = some (.int .u8 (l.getD i 0)) := by
      rcases hc with h0 | h0
      · omega
      · exact h0
    have hs1 := hsrc q (by omega)
    have hr1 := hrg q
    clear hsrc hrg hc
    generalize l.getD q 0 = x at *
    have hs2 : (w.setCell ⟨b, 1, none⟩ (.int .i64 ((q : Int) + 1))).cell? ⟨c, off + q, none⟩ = some (.int .u8 x) := by
      rw [World.cell?_setCell_other _ _ _ _ (fun e => by have := congrArg Addr.block e; simp at this; omega)]; exact hs1
    go_enter Tryd.func72, Tryd.ntmps72
    generalize hw1 : w.setCell ⟨b, 1, none⟩ (.int .i64 ((q : Int) + 1)) = w1 at *
    have f2' : w1.frozen? ⟨b, 2, none⟩ = false := by rw [← hw1]; simpa using f2
    have m1 : IntKind.i64.wrap (s * 31) = s * 31 := wrapS _ (by omega) (by omega)
    have m2 : IntKind.i64.wrap (s * 31 + x) = s * 31 + x := wrapS _ (by omega) (by omega)
    have m3 : IntKind.i64.wrap (s * 31 + x + 7) = s * 31 + x + 7 := wrapS _ (by omega) (by omega)
    have m4 : IntKind.i64.wrap ((q : Int) + 1 - 1) = (q : Int) := by rw [show (q : Int) + 1 - 1 = (q : Int) by omega]; exact wrapS _ (by omega) (by omega)
    have m8 : IntKind.i64.wrap (q : Int) = (q : Int) := wrapS _ (by omega) (by omega)
    have m5 : (s * 31 + x + 7).tmod 2147483648 = (s * 31 + x + 7) % 2147483648 := Int.tmod_eq_emod_of_nonneg (by omega)
    have m6 : IntKind.i64.wrap ((s * 31 + x + 7) % 2147483648) = (s * 31 + x + 7) % 2147483648 := wrapS _ (by omega) (by omega)
    have m7 : IntKind.i64.wrap x = x := wrapS _ (by omega) (by omega)
    have q0 : (0 : Int) ≤ (q : Int) := by omega
    have q1 : (q : Int) < (l.length : Int) := by omega
    go_wp2_with fail
    go_quiet (fail)
    have e0 : (w1.drewN nq).cell? ⟨b, 0, none⟩ = _ := d0
    have e1 : (w1.drewN nq).cell? ⟨b, 1, none⟩ = _ := d1
    have e2 : (w1.drewN nq).cell? ⟨b, 2, none⟩ = _ := d2
    have e3 : (w1.drewN nq).cell? ⟨c, off + q, none⟩ = _ := hs2
    have e4 : (w1.drewN nq).frozen? ⟨b, 2, none⟩ = false := f2'
    clear d0 d1 d2 hs2 f2'
    generalize hw2 : w1.drewN nq = w2 at *
    go_wp2_with fail
    refine wp_region_still_tail 21 (by kernel_rfl) (by kernel_rfl) ?_
    simp only [List.take_succ_cons, List.take_zero, List.drop_succ_cons, List.drop_zero]
    repeat (first | still_step)
    refine wpStill_nil ?_
    have S3 := hide (((unhide H).step1 (p' := (q : Int) + 1) (by omega) (by omega)))
    rw [hw1] at S3
    have O3 : Hid (OnlyAt b w ({ heap := w2.heap, tape := w2.tape, drawn := w2.drawn + 1, os := w2.os, output := w2.output } : World)) := hide (by rw [← hw2, ← hw1]; exact ((OnlyAt.set b w 1 _).trans (OnlyAt.drewN b _ nq)).trans (OnlyAt.drewN b _ 1))
    have T3 : Hid (Src ({ heap := w2.heap, tape := w2.tape, drawn := w2.drawn + 1, os := w2.os, output := w2.output } : World) b (some ⟨c, off, none⟩) cap l (M + 1)) := hide (by rw [← hw2]; exact ((unhide S3).drewN nq).drewN 1)
    have g0 : ({ heap := w2.heap, tape := w2.tape, drawn := w2.drawn + 1, os := w2.os, output := w2.output } : World).cell? ⟨b, 0, none⟩ = _ := e0
    have g1 : ({ heap := w2.heap, tape := w2.tape, drawn := w2.drawn + 1, os := w2.os, output := w2.output } : World).cell? ⟨b, 1, none⟩ = _ := e1
    have g2 : ({ heap := w2.heap, tape := w2.tape, drawn := w2.drawn + 1, os := w2.os, output := w2.output } : World).cell? ⟨b, 2, none⟩ = _ := e2
    have g3 : ({ heap := w2.heap, tape := w2.tape, drawn := w2.drawn + 1, os := w2.os, output := w2.output } : World).cell? ⟨c, off + q, none⟩ = _ := e3
    have g4 : ({ heap := w2.heap, tape := w2.tape, drawn := w2.drawn + 1, os := w2.os, output := w2.output } : World).frozen? ⟨b, 2, none⟩ = false := e4
    clear e0 e1 e2 e3 e4 S3
    generalize ({ heap := w2.heap, tape := w2.tape, drawn := w2.drawn + 1, os := w2.os, output := w2.output } : World) = w3 at *
    have hs0 : 0 ≤ (s * 31 + x + 7) % 2147483648 := by omega
    have hs9 : (s * 31 + x + 7) % 2147483648 < 2147483648 := by omega
    clear m1 m2 m3 m5 m6
    generalize (s * 31 + x + 7) % 2147483648 = s' at *
    have k0 : (w3.setCell ⟨b, 2, none⟩ (.int .i64 s')).cell? ⟨b, 0, none⟩ = some (.slice (some ⟨c, off, none⟩) l.length cap) := by rw [World.cell?_setCell_other _ _ _ _ (by simp)]; exact g0
    have k1 : (w3.setCell ⟨b, 2, none⟩ (.int .i64 s')).cell? ⟨b, 1, none⟩ = some (.int .i64 ((q : Int) + 1)) := by rw [World.cell?_setCell_other _ _ _ _ (by simp)]; exact g1
    have k3 : (w3.setCell ⟨b, 2, none⟩ (.int .i64 s')).cell? ⟨c, off + q, none⟩ = some (.int .u8 x) := by
      rw [World.cell?_setCell_other _ _ _ _ (fun e => by have := congrArg Addr.block e; simp at this; omega)]; exact g3
    go_wp2_with fail
    go_quiet (fail)
    go_wp2_with fail
    go_ret
    exact ⟨x, rfl, hr1.1, hr1.2, ((unhide T3).step2 hs0 hs9).drewN _, ((unhide O3).trans (OnlyAt.set b _ 2 _)).trans (OnlyAt.drewN b _ _)⟩
  · have H1 : Hid (Src (w.setCell ⟨b, 1, none⟩ (.int .i64 (p + 1))) b a cap l (M + 1)) := hide ((unhide H).step1 (by omega) (by omega))
    have O1 : Hid (OnlyAt b w (w.setCell ⟨b, 1, none⟩ (.int .i64 (p + 1)))) := hide (OnlyAt.set b w 1 _)
    have f2' : (w.setCell ⟨b, 1, none⟩ (.int .i64 (p + 1))).frozen? ⟨b, 2, none⟩ = false := by simpa using f2
    clear hc hrg H
    go_enter Tryd.func72, Tryd.ntmps72
    go_wp2_with fail
    go_quiet (fail)
    have H2 := hide ((unhide H1).drewN nq)
    have O2 := hide ((unhide O1).trans (OnlyAt.drewN b _ nq))
    by_cases h3k : 3000 < p + 1
    · go_wp2_with fail
      go_ret
      exact ⟨0, rfl, by omega, by omega, unhide H2, unhide O2⟩
    · have m1 : IntKind.i64.wrap (s * 1103515245) = s * 1103515245 := wrapS _ (by omega) (by omega)
      have m3 : IntKind.i64.wrap (s * 1103515245 + 12345) = s * 1103515245 + 12345 := wrapS _ (by omega) (by omega)
      have m5 : (s * 1103515245 + 12345).tmod 2147483648 = (s * 1103515245 + 12345) % 2147483648 := Int.tmod_eq_emod_of_nonneg (by omega)
      have m6 : IntKind.i64.wrap ((s * 1103515245 + 12345) % 2147483648) = (s * 1103515245 + 12345) % 2147483648 := wrapS _ (by omega) (by omega)
      go_wp2_with fail
      go_ret
      exact ⟨_, rfl, by omega, by omega, (unhide H2).step2 (by omega) (by omega), (unhide O2).trans (OnlyAt.set b _ 2 _)⟩

set_option maxRecDepth 100000 in
set_option maxHeartbeats 1000000 in
theorem srcNext_any (n : Int) (w : World) (b : Nat) (a : Option Addr) (cap : Nat) (l : List Int) (M : Int) (h : Src w b a cap l M) (hM : M ≤ 900000000) (hn : 1 ≤ n) (hn2 : n < 16777216) :
    Calls Tryd.prog 41 #[.pointer (some ⟨b, 0, none⟩), .int .i64 n] w fun e w' => ∃ x : Int, e = .returned (.int .i64 x) ∧ 0 ≤ x ∧ x < n ∧ Src w' b a cap l (M + 3) ∧ OnlyAt b w w' := by
  by_cases h1 : n ≤ 1
  · go_enter Tryd.func41, Tryd.ntmps41
    have H := hide h
    go_wp2_with fail
    go_ret
    exact ⟨0, rfl, by omega, by omega, (unhide H).mono (by omega), OnlyAt.refl _ _⟩
  · by_cases h2 : n ≤ 256
    · have H := hide h
      clear h
      go_enter Tryd.func41, Tryd.ntmps41
      go_wp2_with fail
      refine (srcByte_any w b a cap l M (unhide H) (by omega)).mono ?_
      rintro e w' ⟨x, rfl, hx0, hx1, hS, hO⟩
      have H2 := hide (And.intro hS hO)
      have m5 : x.tmod n = x % n := Int.tmod_eq_emod_of_nonneg (by omega)
      have m6 : 0 ≤ x % n := Int.emod_nonneg _ (by omega)
      have m7 : x % n < n := Int.emod_lt_of_pos _ (by omega)
      have m8 : IntKind.i64.wrap (x % n) = x % n := wrapS _ (by omega) (by omega)
      have m9 : (n == 0) = false := by simp; omega
      have m10 : n ≠ 0 := by omega
      clear hS hO
      go_wp2_with fail
      go_ret
      exact ⟨_, rfl, m6, m7, (unhide H2).1.mono (by omega), (unhide H2).2⟩
    · have H := hide h
      clear h
      go_enter Tryd.func41, Tryd.ntmps41
      go_wp2_with fail
      refine (srcByte_any w b a cap l M (unhide H) (by omega)).mono ?_
      rintro e w' ⟨x, rfl, hx0, hx1, hS, hO⟩
      have H2 := hide (And.intro hS hO)
      clear hS hO
      go_wp2_with fail
      refine (srcByte_any w' b a cap l (M + 1) (unhide H2).1 (by omega)).mono ?_
      rintro e w'' ⟨y, rfl, hy0, hy1, hS, hO⟩
      have H3 := hide (And.intro hS hO)
      clear hS hO
      go_wp2_with fail
      refine (srcByte_any w'' b a cap l (M + 1 + 1) (unhide H3).1 (by omega)).mono ?_
      rintro e wq ⟨z, rfl, hz0, hz1, hS, hO⟩
      have H4 := hide (And.intro hS hO)
      clear hS hO
      have m5 : (x * 65536 + y * 256 + z).tmod n = (x * 65536 + y * 256 + z) % n := Int.tmod_eq_emod_of_nonneg (by omega)
      have m6 : 0 ≤ (x * 65536 + y * 256 + z) % n := Int.emod_nonneg _ (by omega)
      have m7 : (x * 65536 + y * 256 + z) % n < n := Int.emod_lt_of_pos _ (by omega)
      have m8 : IntKind.i64.wrap ((x * 65536 + y * 256 + z) % n) = (x * 65536 + y * 256 + z) % n := wrapS _ (by omega) (by omega)
      have m9 : (n == 0) = false := by simp; omega
      have m10 : n ≠ 0 := by omega
      go_wp2_with fail
      go_ret
      exact ⟨_, rfl, m6, m7, (unhide H4).1.mono (by omega), ((unhide H2).2.trans (unhide H3).2).trans (unhide H4).2⟩
end Go.Proofs.YtnajpeaieeaflaaDoor
namespace Go.Proofs.YtnajpeaieeaflaaDoor
open Go.ChangeShapes Go.WideShapes Go.ChangeAt Go.RowKit
set_option linter.unusedVariables false

theorem owns_made' {base e : Nat} (w : World) (b : Nat) (hb : b = w.heap.size) (hB : base ≤ w.heap.size) : (w.alloc (.cells #[] e)).ownsRow base e 1 (.slice (some ⟨b, 0, none⟩) 0 0) 0 [] := by
  subst hb
  exact World.ownsRow_made w #[] 0 hB (by unfold maxLen; omega) rfl
theorem Src.lt {w : World} {b : Nat} {a : Option Addr} {cap : Nat} {l : List Int} {M : Int} (h : Src w b a cap l M) : b < w.heap.size := by
  obtain ⟨_, _, _, _, _, _, _, _, _, _, h, _⟩ := h; exact h
theorem Src.len {w : World} {b : Nat} {a : Option Addr} {cap : Nat} {l : List Int} {M : Int} (h : Src w b a cap l M) : l.length ≤ 2097152 := by
  obtain ⟨_, _, _, _, _, _, _, _, _, _, _, _, _, h⟩ := h; exact h
theorem Src.alloc {w : World} {b : Nat} {a : Option Addr} {cap : Nat} {l : List Int} {M : Int} (h : Src w b a cap l M) (o : Obj) : Src (w.alloc o) b a cap l M := h.grown (World.grownBy_alloc w o none) (fun k e => by cases e)
/-- What a slice of the call's own holds is read as bytes. -/
theorem bytes_of_own {w : World} {base g n c : Nat} {ns : List Int} (h : w.ownsRow base 5 1 (.slice (some ⟨g, 0, none⟩) n c) n (ns.map (Value.int .u8))) (hr : ∀ i, 0 ≤ ns.getD i 0 ∧ ns.getD i 0 ≤ 255) (hn : n ≤ maxLen) : Bytes w (.slice (some ⟨g, 0, none⟩) ns.length c) ns := by
  have hl : ns.length = n := by simpa using h.1
  subst hl
  refine ⟨_, _, rfl, hn, .inr ⟨g, 0, rfl, (h.lt g rfl).2, fun i hi => ?_⟩, hr⟩
  rw [Nat.zero_add, h.cellAt i (by omega)]
  simp [List.getD, hi]
theorem range_snoc {ns : List Int} {x : Int} (h : ∀ i, 0 ≤ ns.getD i 0 ∧ ns.getD i 0 ≤ 255) (h0 : 0 ≤ x) (h1 : x ≤ 255) : ∀ i, 0 ≤ (ns ++ [x]).getD i 0 ∧ (ns ++ [x]).getD i 0 ≤ 255 := by
  intro i
  by_cases hi : i < ns.length
  · rw [List.getD_eq_getElem?_getD, List.getElem?_append_left hi, ← List.getD_eq_getElem?_getD]; exact h i
  · by_cases hi2 : i = ns.length
    · subst hi2; rw [List.getD_eq_getElem?_getD, List.getElem?_append_right (by omega)]; simp; omega
    · rw [List.getD_eq_getElem?_getD, List.getElem?_eq_none (by simp; omega)]; simp
theorem own_onlyAt {b base e n : Nat} {v : Value} {xs : List Value} {w w' : World} (h : w.ownsRow base e 1 v n xs) (hO : OnlyAt b w w') (hb : b < base) : w'.ownsRow base e 1 v n xs := by
  obtain ⟨hl, ⟨rfl, rfl⟩ | ⟨g, cap, cur, rfl, hbg, hg, hn, hc, hz, ht⟩⟩ := h
  · exact ⟨hl, .inl ⟨rfl, rfl⟩⟩
  · have hlt : g < w.heap.size := (World.ownsRow.lt ⟨hl, .inr ⟨g, cap, cur, rfl, hbg, hg, hn, hc, hz, ht⟩⟩ g rfl).2
    exact ⟨hl, .inr ⟨g, cap, cur, rfl, hbg, (hO.2.block g hlt (fun e => by cases e; omega)).trans hg, hn, hc, hz, ht⟩⟩

set_option maxRecDepth 100000 in
set_option maxHeartbeats 1000000 in
theorem l00Source_any (a : Option Addr) (cap : Nat) (l : List Int) (w : World) (h : Bytes w (.slice a l.length cap) l) (hl : l.length ≤ 2097152) :
    Calls Tryd.prog 14 #[.slice a l.length cap] w fun e w' => e = .returned (.pointer (some ⟨w.heap.size, 0, none⟩)) ∧ Src w' w.heap.size a cap l 0 ∧ Below w.heap.size w w' := by
  obtain ⟨a', cap', hv, hm, hc, hr⟩ := h
  simp only [Value.slice.injEq] at hv
  obtain ⟨rfl, _, rfl⟩ := hv
  have HC := hide hc
  have HR := hide hr
  clear hc hr hm
  go_enter Tryd.func14, Tryd.ntmps14
  go_wp2_with fail
  go_ret
  have hb : Below w.heap.size w (w.alloc (Obj.cells #[Value.slice a l.length cap, Value.int IntKind.i64 0, Value.int IntKind.i64 ((l.length : Int) % 1000)] 68)) := (Below.refl _ _).alloc (Nat.le_refl _) _
  refine ⟨rfl, ⟨0, (l.length : Int) % 1000, by omega, by omega, by omega, by omega, ?_, ?_, ?_, fun j => by simp, by simp, ?_, unhide HR, hl⟩, hb⟩
  · rw [World.cell?_alloc_at _ _ _ _ rfl]; rfl
  · rw [World.cell?_alloc_at _ _ _ _ rfl]; rfl
  · rw [World.cell?_alloc_at _ _ _ _ rfl]; rfl
  · rcases unhide HC with h0 | ⟨c, off, ha, hlt, hcell⟩
    · exact .inl h0
    · exact .inr ⟨c, off, ha, hlt, fun i hi => (hb.cell (p := ⟨c, off + i, none⟩) hlt).trans (hcell i hi)⟩

end Go.Proofs.YtnajpeaieeaflaaDoor
namespace Go.Proofs.YtnajpeaieeaflaaDoor
open Go.ChangeShapes Go.WideShapes Go.ChangeAt Go.RowKit
set_option linter.unusedVariables false
set_option linter.unusedSimpArgs false

theorem OnlyAt.touch {b : Nat} {w w' : World} (h : OnlyAt b w w') : Touch (fun k => k = b) w w' :=
  ⟨h.2.os, h.2.tape, h.2.output, h.2.size, fun k hk hn => h.2.block k hk (fun e => hn (by simpa using e))⟩
theorem Blk.only {b B : Nat} {w w' : World} {vs : List Value} (h : Blk w B vs) (hO : OnlyAt b w w') (hb : B ≠ b) : Blk w' B vs := h.kept hO.touch hb

set_option maxRecDepth 100000 in
set_option maxHeartbeats 1000000 in
theorem pick_any (ss : List ByteArray) (c : Nat) (w : World) (b : Nat) (a : Option Addr) (cap : Nat) (l : List Int) (M : Int) (h : Src w b a cap l M) (hM : M ≤ 900000000) (hB : Blk w c (ss.map Value.string)) (hc : c ≠ b) (h1 : 1 ≤ ss.length) (h2 : ss.length ≤ 256) :
    Calls Tryd.prog 49 #[.pointer (some ⟨b, 0, none⟩), .slice (some ⟨c, 0, none⟩) ss.length ss.length] w fun e w' => ∃ i, i < ss.length ∧ e = .returned (.string (ss.getD i ByteArray.empty)) ∧ Src w' b a cap l (M + 3) ∧ OnlyAt b w w' := by
  have H := hide h
  have HB := hide hB
  have h3 : ((ss.length : Int) == 0) = false := by rw [beq_eq_false_iff_ne]; omega
  clear h hB
  go_enter Tryd.func49, Tryd.ntmps49
  go_wp2_with fail
  refine (srcNext_any ss.length w b a cap l M (unhide H) hM (by omega) (by omega)).mono ?_
  rintro e w1 ⟨x, rfl, hx0, hx1, hS, hO⟩
  obtain ⟨i, rfl⟩ : ∃ i : Nat, x = (i : Int) := ⟨x.toNat, by omega⟩
  have hil : i < ss.length := by omega
  have c1 := ((unhide HB).only hO hc).cell i (v := .string (ss.getD i ByteArray.empty)) (by
    rw [List.getElem?_map, List.getElem?_eq_getElem hil, List.getD_eq_getElem?_getD, List.getElem?_eq_getElem hil]; rfl)
  have R := hide (And.intro hS hO)
  clear hS hO H HB h3
  obtain ⟨s, hs⟩ : ∃ s, s = ss.getD i ByteArray.empty := ⟨_, rfl⟩
  rw [← hs] at c1
  have HSE := hide hs
  clear hs
  go_wp2_with fail
  go_ret
  exact ⟨i, hil, by rw [← unhide HSE]; rfl, (unhide R).1, (unhide R).2⟩

set_option maxRecDepth 100000 in
set_option maxHeartbeats 1000000 in
theorem chance_any (n : Int) (w : World) (b : Nat) (a : Option Addr) (cap : Nat) (l : List Int) (M : Int) (h : Src w b a cap l M) (hM : M ≤ 900000000) (hn : 1 ≤ n) (hn2 : n < 16777216) :
    Calls Tryd.prog 46 #[.pointer (some ⟨b, 0, none⟩), .int .i64 n] w fun e w' => ∃ q : Bool, e = .returned (.bool q) ∧ Src w' b a cap l (M + 3) ∧ OnlyAt b w w' := by
  have H := hide h
  clear h
  go_enter Tryd.func46, Tryd.ntmps46
  go_wp2_with fail
  refine (srcNext_any n w b a cap l M (unhide H) hM hn hn2).mono ?_
  rintro e w1 ⟨x, rfl, hx0, hx1, hS, hO⟩
  have R := hide (And.intro hS hO)
  clear hS hO H
  go_wp2_with fail
  go_ret
  exact ⟨_, rfl, (unhide R).1, (unhide R).2⟩

end Go.Proofs.YtnajpeaieeaflaaDoor
namespace Go.Proofs.YtnajpeaieeaflaaDoor.Sha
open Go.ChangeShapes Go.WideShapes Go.ChangeAt Go.RowKit
set_option linter.unusedVariables false
set_option linter.unusedSimpArgs false
set_option maxRecDepth 100000

def headL : List ByteArray := [⟨#[97]⟩, ⟨#[98]⟩, ⟨#[99]⟩, ⟨#[100]⟩, ⟨#[101]⟩, ⟨#[102]⟩, ⟨#[97, 108, 112, 104, 97]⟩, ⟨#[98, 101, 116, 97]⟩]
def sufL : List ByteArray := [⟨#[]⟩, ⟨#[]⟩, ⟨#[49]⟩, ⟨#[50]⟩]
def sufI (k : Nat) : Nat := k - 1
theorem key_of : ∀ (i : Fin 8) (k : Fin 4), headL.getD i.val ByteArray.empty ++ sufL.getD k.val ByteArray.empty = keyN (3 * i.val + sufI k.val) := by decide +kernel
theorem head_size : ∀ i : Fin 8, (headL.getD i.val ByteArray.empty).size ≤ 5 := by decide +kernel
theorem suf_size : ∀ i : Fin 4, (sufL.getD i.val ByteArray.empty).size ≤ 1 := by decide +kernel
def datL : List ByteArray := [⟨#[]⟩, ⟨#[49]⟩, ⟨#[50]⟩, ⟨#[120]⟩, ⟨#[108, 111, 110, 103, 101, 114, 32, 118, 97, 108, 117, 101]⟩]
theorem dat_size : ∀ i : Fin 5, (datL.getD i.val ByteArray.empty).size ≤ 60 := by decide +kernel
theorem Src.bel {w w' : World} {b : Nat} {a : Option Addr} {cap : Nat} {l : List Int} {M : Int} (h : Src w b a cap l M) (hb : Below w.heap.size w w') : Src w' b a cap l M :=
  h.grown (r := none) ⟨hb.os, hb.tape, hb.output, hb.size, fun k hk _ => hb.block k hk⟩ (fun k e => by cases e)
set_option maxHeartbeats 1000000 in
theorem srcSizeN_any (m : Nat) (hm : m ≤ 60) (w : World) (b : Nat) (a : Option Addr) (cap : Nat) (l : List Int) (M : Int) (h : Src w b a cap l M) (hm0 : 1 ≤ m) :
    Calls Tryd.prog 42 #[.pointer (some ⟨b, 0, none⟩), .int .i64 (m : Int)] w fun e w' => ∃ n : Int, e = .returned (.int .i64 n) ∧ 1 ≤ n ∧ n ≤ m ∧ w' = w := by
  have hl := h.len
  obtain ⟨p, s, _, _, _, _, c0, _⟩ := h
  generalize l.length = n at *
  have q1 : (n : Int).tdiv 12 = (n : Int) / 12 := Int.tdiv_eq_ediv_of_nonneg (by omega)
  have q2 : IntKind.i64.wrap ((n : Int) / 12) = (n : Int) / 12 := wrapS _ (by omega) (by omega)
  have q3 : IntKind.i64.wrap (1 + (n : Int) / 12) = 1 + (n : Int) / 12 := wrapS _ (by omega) (by omega)
  generalize hk : (n : Int) / 12 = k at *
  have hk0 : 0 ≤ k := by omega
  clear hk hl
  by_cases h20 : 1 + k ≤ (m : Int)
  · go_enter Tryd.func42, Tryd.ntmps42
    go_wp2_with fail
    go_ret
    exact ⟨_, rfl, by omega, by omega, rfl⟩
  · go_enter Tryd.func42, Tryd.ntmps42
    go_wp2_with fail
    go_ret
    exact ⟨_, rfl, by omega, by omega, rfl⟩
set_option maxHeartbeats 1000000 in
theorem datumM_any (w : World) (b : Nat) (a : Option Addr) (cap : Nat) (l : List Int) (M : Int) (h : Src w b a cap l M) (hM : M ≤ 900000000) :
    Calls Tryd.prog 45 #[.pointer (some ⟨b, 0, none⟩)] w fun e w' => ∃ s : ByteArray, e = .returned (.string s) ∧ s.size ≤ 60 ∧ Src w' b a cap l (M + 3) ∧ Touch (fun k => k = b) w w' := by
  have hbl := h.lt
  have H := hide (h.alloc (.cells #[.string ⟨#[]⟩, .string ⟨#[49]⟩, .string ⟨#[50]⟩, .string ⟨#[120]⟩, .string ⟨#[108, 111, 110, 103, 101, 114, 32, 118, 97, 108, 117, 101]⟩] 9))
  have HB := hide (Blk.new w #[.string ⟨#[]⟩, .string ⟨#[49]⟩, .string ⟨#[50]⟩, .string ⟨#[120]⟩, .string ⟨#[108, 111, 110, 103, 101, 114, 32, 118, 97, 108, 117, 101]⟩] 9 w.heap.size rfl)
  have HT := hide ((Touch.refl (fun k => k = b) w).alloc (.cells #[.string ⟨#[]⟩, .string ⟨#[49]⟩, .string ⟨#[50]⟩, .string ⟨#[120]⟩, .string ⟨#[108, 111, 110, 103, 101, 114, 32, 118, 97, 108, 117, 101]⟩] 9))
  clear h
  go_enter Tryd.func45, Tryd.ntmps45
  go_wp2_with fail
  generalize w.alloc (.cells #[.string ⟨#[]⟩, .string ⟨#[49]⟩, .string ⟨#[50]⟩, .string ⟨#[120]⟩, .string ⟨#[108, 111, 110, 103, 101, 114, 32, 118, 97, 108, 117, 101]⟩] 9) = w0 at *
  refine (pick_any datL w.heap.size w0 b a cap l M (unhide H) hM (unhide HB) (by omega) (by decide) (by decide)).mono ?_
  rintro e w1 ⟨i, hi, rfl, hS, hO⟩
  have R := hide (And.intro hS ((unhide HT).trans hO.touch (fun _ _ h => h)))
  have hq := hide (show (datL.getD i ByteArray.empty).size ≤ 60 from dat_size ⟨i, hi⟩)
  clear hS hO HT HB H
  generalize datL.getD i ByteArray.empty = s at *
  go_wp2_with fail
  go_ret
  exact ⟨s, rfl, unhide hq, (unhide R).1, (unhide R).2⟩
set_option maxHeartbeats 2000000 in
theorem mapKey_any (w : World) (b : Nat) (a : Option Addr) (cap : Nat) (l : List Int) (M : Int) (h : Src w b a cap l M) (hM : M ≤ 800000000) :
    Calls Tryd.prog 16 #[.pointer (some ⟨b, 0, none⟩)] w fun e w' => ∃ j, j < 24 ∧ e = .returned (.string (keyN j)) ∧ Src w' b a cap l (M + 6) ∧ Touch (fun k => k = b) w w' := by
  have hbl := h.lt
  have H := hide (h.alloc (.cells #[.string ⟨#[97]⟩, .string ⟨#[98]⟩, .string ⟨#[99]⟩, .string ⟨#[100]⟩, .string ⟨#[101]⟩, .string ⟨#[102]⟩, .string ⟨#[97, 108, 112, 104, 97]⟩, .string ⟨#[98, 101, 116, 97]⟩] 9))
  have HB := hide (Blk.new w #[.string ⟨#[97]⟩, .string ⟨#[98]⟩, .string ⟨#[99]⟩, .string ⟨#[100]⟩, .string ⟨#[101]⟩, .string ⟨#[102]⟩, .string ⟨#[97, 108, 112, 104, 97]⟩, .string ⟨#[98, 101, 116, 97]⟩] 9 w.heap.size rfl)
  have HT := hide ((Touch.refl (fun k => k = b) w).alloc (.cells #[.string ⟨#[97]⟩, .string ⟨#[98]⟩, .string ⟨#[99]⟩, .string ⟨#[100]⟩, .string ⟨#[101]⟩, .string ⟨#[102]⟩, .string ⟨#[97, 108, 112, 104, 97]⟩, .string ⟨#[98, 101, 116, 97]⟩] 9))
  clear h
  go_enter Tryd.func16, Tryd.ntmps16
  go_wp2_with fail
  generalize w.alloc (.cells #[.string ⟨#[97]⟩, .string ⟨#[98]⟩, .string ⟨#[99]⟩, .string ⟨#[100]⟩, .string ⟨#[101]⟩, .string ⟨#[102]⟩, .string ⟨#[97, 108, 112, 104, 97]⟩, .string ⟨#[98, 101, 116, 97]⟩] 9) = w0 at *
  refine (pick_any headL w.heap.size w0 b a cap l M (unhide H) (by omega) (unhide HB) (by omega) (by decide) (by decide)).mono ?_
  rintro e w1 ⟨i, hi, rfl, hS, hO⟩
  have T1 := hide ((unhide HT).trans hO.touch (fun _ _ h => h))
  have hbl1 := hS.lt
  have H1 := hide (hS.alloc (.cells #[.string ⟨#[]⟩, .string ⟨#[]⟩, .string ⟨#[49]⟩, .string ⟨#[50]⟩] 9))
  have HB1 := hide (Blk.new w1 #[.string ⟨#[]⟩, .string ⟨#[]⟩, .string ⟨#[49]⟩, .string ⟨#[50]⟩] 9 w1.heap.size rfl)
  have T1b := hide ((unhide T1).alloc (.cells #[.string ⟨#[]⟩, .string ⟨#[]⟩, .string ⟨#[49]⟩, .string ⟨#[50]⟩] 9))
  have HS1 := hide (head_size ⟨i, hi⟩)
  have HK := hide (fun k => key_of ⟨i, hi⟩ k)
  clear hS hO HT HB H T1
  dsimp only at HS1 HK
  generalize headL.getD i ByteArray.empty = hd at *
  go_wp2_with fail
  generalize w1.alloc (.cells #[.string ⟨#[]⟩, .string ⟨#[]⟩, .string ⟨#[49]⟩, .string ⟨#[50]⟩] 9) = w2 at *
  refine (pick_any sufL w1.heap.size w2 b a cap l (M + 3) (unhide H1) (by omega) (unhide HB1) (by omega) (by decide) (by decide)).mono ?_
  rintro e w3 ⟨k, hk, rfl, hS, hO⟩
  have R := hide (And.intro hS ((unhide T1b).trans hO.touch (fun _ _ h => h)))
  have HS2 := hide (suf_size ⟨k, hk⟩)
  have HK2 := hide (unhide HK ⟨k, hk⟩)
  have hi8 : i < 8 := hi
  have hk4 : k < 4 := hk
  clear hS hO HB1 H1 T1b HK
  dsimp only at HS2 HK2
  generalize sufL.getD k ByteArray.empty = sf at *
  have hz : hd.size + sf.size ≤ 6 := by have h1 := unhide HS1; have h2 := unhide HS2; omega
  go_wp2_with fail
  go_ret
  refine ⟨3 * i + sufI k, by unfold sufI; omega, by rw [unhide HK2]; rfl, ?_, (unhide R).2⟩
  have := (unhide R).1
  exact this.mono (by omega)
end Go.Proofs.YtnajpeaieeaflaaDoor.Sha
namespace Go.Proofs.YtnajpeaieeaflaaDoor
open Go.ChangeShapes Go.WideShapes Go.ChangeAt Go.RowKit Go.Shelf
set_option linter.unusedVariables false

/-- A number's digits. -/
def digT (n : Nat) : ByteArray := ⟨(Lib.decDigits n).toArray⟩
end Go.Proofs.YtnajpeaieeaflaaDoor
namespace Go.Proofs.YtnajpeaieeaflaaDoor
open Go.ChangeShapes Go.WideShapes Go.ChangeAt Go.RowKit
set_option linter.unusedVariables false

/-- One that only reads comes first. -/
theorem tkH {P : Program} {md : Region.Mode} {ops : Array Oper} {Q : Exit → Act → World → Prop} {S : World → Prop} (i : Nat) {oi : Oper} {v : Value} {fuel : Nat} {listed : Array Bool} {a a' : Act} {w : World} (hi : ops[i]? = some oi)
    (h : wpAnyH P md ops Q S fuel (listed.setIfInBounds i true) a' w)
    (hs : Region.noSelect ops = true := by kernel_rfl) (hf : Region.free md ops listed i = true := by kernel_rfl) (hr : (Region.ready md ops listed).contains i = true := by kernel_rfl)
    (hQ : ∀ c a w, Q (.panic c) (a.put oi.dst v) w → Q (.panic c) a w := by exact fun _ _ _ h => h) (hy : YieldsIf P ops S oi v a := by (refine Or.inl ⟨by rfl, ?_⟩; intro wq hSw; (try dsimp only at hSw); (try simp only [List.getElem_toArray, List.getElem_cons_succ, List.getElem_cons_zero]); go_simp; try with_reducible rfl)) (hS : S w := by assumption)
    (ha : a.put oi.dst v = a' := by ((try simp only [Act.put, List.getElem_toArray, List.getElem_cons_succ, List.getElem_cons_zero, List.setIfInBounds_toArray, List.set_cons_zero, List.set_cons_succ]); try rfl)) : wpAnyH P md ops Q S (fuel + 1) listed a w := by
  subst ha
  exact wpAnyH_take hi hs hf hr hQ hy hS h
/-- A step is done: S holds, and it goes on, what was put laid out. -/
theorem outH {P : Program} {md : Region.Mode} {ops : Array Oper} {Q : Exit → Act → World → Prop} {S : World → Prop} {fuel : Nat} {L : Array Bool} {K : Act → World → Prop} {a a' : Act} {w : World} (hK : Shut (∀ a w, S w → (S w → wpAnyH P md ops Q S fuel L a w) → K a w)) (hS : S w) (h : S w → wpAnyH P md ops Q S fuel L a' w)
    (ha : a = a' := by ((try simp only [Act.put, List.getElem_toArray, List.getElem_cons_succ, List.getElem_cons_zero, List.setIfInBounds_toArray, List.set_cons_zero, List.set_cons_succ]); try rfl)) : K a w := by
  subst ha
  exact hK.out _ _ hS h
/-- Just these are ready. -/
theorem rdy1 {P : Program} {md : Region.Mode} {ops : Array Oper} {Q : Exit → Act → World → Prop} {S : World → Prop} {fuel : Nat} {L : Array Bool} {a : Act} {w : World} (i : Nat) {oi : Oper} (ei : ops[i]? = some oi) (hi : ∀ K' : Act → World → Prop, Shut (∀ a w, S w → (S w → wpAnyH P md ops Q S fuel (L.setIfInBounds i true) a w) → K' a w) → if Region.wanted oi (yielded ops a.tmps) = true then Oper.wp P oi a w K' Q else K' (a.put oi.dst undef) w) (hr : Region.ready md ops L = [i] := by kernel_rfl) : wpAnyH P md ops Q S (fuel + 1) L a w :=
  wpAnyH_ready hr (by simp) (AllReadyH.cons ei hi AllReadyH.nil)
theorem rdy2 {P : Program} {md : Region.Mode} {ops : Array Oper} {Q : Exit → Act → World → Prop} {S : World → Prop} {fuel : Nat} {L : Array Bool} {a : Act} {w : World} (i j : Nat) {oi oj : Oper} (ei : ops[i]? = some oi) (ej : ops[j]? = some oj) (hi : ∀ K' : Act → World → Prop, Shut (∀ a w, S w → (S w → wpAnyH P md ops Q S fuel (L.setIfInBounds i true) a w) → K' a w) → if Region.wanted oi (yielded ops a.tmps) = true then Oper.wp P oi a w K' Q else K' (a.put oi.dst undef) w) (hj : ∀ K' : Act → World → Prop, Shut (∀ a w, S w → (S w → wpAnyH P md ops Q S fuel (L.setIfInBounds j true) a w) → K' a w) → if Region.wanted oj (yielded ops a.tmps) = true then Oper.wp P oj a w K' Q else K' (a.put oj.dst undef) w) (hr : Region.ready md ops L = [i, j] := by kernel_rfl) : wpAnyH P md ops Q S (fuel + 1) L a w :=
  wpAnyH_ready hr (by simp) (AllReadyH.cons ei hi (AllReadyH.cons ej hj AllReadyH.nil))
theorem rdy3 {P : Program} {md : Region.Mode} {ops : Array Oper} {Q : Exit → Act → World → Prop} {S : World → Prop} {fuel : Nat} {L : Array Bool} {a : Act} {w : World} (i j k : Nat) {oi oj ok : Oper} (ei : ops[i]? = some oi) (ej : ops[j]? = some oj) (ek : ops[k]? = some ok) (hi : ∀ K' : Act → World → Prop, Shut (∀ a w, S w → (S w → wpAnyH P md ops Q S fuel (L.setIfInBounds i true) a w) → K' a w) → if Region.wanted oi (yielded ops a.tmps) = true then Oper.wp P oi a w K' Q else K' (a.put oi.dst undef) w) (hj : ∀ K' : Act → World → Prop, Shut (∀ a w, S w → (S w → wpAnyH P md ops Q S fuel (L.setIfInBounds j true) a w) → K' a w) → if Region.wanted oj (yielded ops a.tmps) = true then Oper.wp P oj a w K' Q else K' (a.put oj.dst undef) w) (hk : ∀ K' : Act → World → Prop, Shut (∀ a w, S w → (S w → wpAnyH P md ops Q S fuel (L.setIfInBounds k true) a w) → K' a w) → if Region.wanted ok (yielded ops a.tmps) = true then Oper.wp P ok a w K' Q else K' (a.put ok.dst undef) w) (hr : Region.ready md ops L = [i, j, k] := by kernel_rfl) : wpAnyH P md ops Q S (fuel + 1) L a w :=
  wpAnyH_ready hr (by simp) (AllReadyH.cons ei hi (AllReadyH.cons ej hj (AllReadyH.cons ek hk AllReadyH.nil)))
/-- What was put is laid out. -/
theorem nrm {P : Program} {md : Region.Mode} {ops : Array Oper} {Q : Exit → Act → World → Prop} {S : World → Prop} {n : Nat} {L : Array Bool} {a a' : Act} {w : World} (h : wpAnyH P md ops Q S n L a' w) (e : a = a' := by ((try simp only [Act.put, List.getElem_toArray, List.getElem_cons_succ, List.getElem_cons_zero, List.setIfInBounds_toArray, List.set_cons_zero, List.set_cons_succ]); try rfl)) : wpAnyH P md ops Q S n L a w := by
  subst e; exact h
theorem nrmR {P : Program} {md : Region.Mode} {ops : Array Oper} {Q : Exit → Act → World → Prop} {S : World → Prop} {n : Nat} {L L' : Array Bool} {a a' : Act} {w : World} (h : wpAnyH P md ops Q S n L a w) (e : a = a' := by ((try simp only [Act.put, List.getElem_toArray, List.getElem_cons_succ, List.getElem_cons_zero, List.setIfInBounds_toArray, List.set_cons_zero, List.set_cons_succ]); try rfl)) (el : L = L' := by kernel_rfl) : wpAnyH P md ops Q S n L' a' w := by
  subst e; subst el; exact h
/-- A new box. -/
theorem newBox (w : World) (cs : Array Value) (t : TypeId) : Below w.heap.size w (w.alloc (.cells cs t)) ∧ Hid (Blk (w.alloc (.cells cs t)) w.heap.size cs.toList) := ⟨(Below.refl _ w).alloc (Nat.le_refl _) _, hide (Blk.new w cs t w.heap.size rfl)⟩
theorem hbtr {a b c : World} (h : Hid (Below a.heap.size a b)) (k : Below b.heap.size b c) : Hid (Below a.heap.size a c) := hide ((unhide h).trans (k.mono (unhide h).size))
/-- The head of a goal under a name, the place in it too. -/
theorem nameAt2 {α β γ δ : Type} (f : α → β → γ → δ → Prop) {x x' : α} {y y' : β} {z : γ} {u : δ} (hx : x = x') (hy : y = y') (h : ∀ F a0, F = f → a0 = z → F x' y' a0 u) : f x y z u := by
  subst hx; subst hy; exact h f z rfl rfl
end Go.Proofs.YtnajpeaieeaflaaDoor
namespace Go.Proofs.YtnajpeaieeaflaaDoor
open Go.ChangeShapes Go.WideShapes Go.ChangeAt Go.RowKit
set_option linter.unusedVariables false
set_option linter.unusedSimpArgs false

theorem conv_at (x : Int) (W : World) (g : Nat) (hc : W.cell? ⟨g, 0, none⟩ = some (.int .u8 x)) : (convert 22 9 (.slice (some ⟨g, 0, none⟩) 1 1)).run Tryd.prog W = .ok (.string (strOfNums [x])) W :=
  run_convert_bytes_arg (P := Tryd.prog) W 22 5 Tryd.underlying22 Tryd.underlying5 g 0 1 1 [x] rfl (fun i hi => by
    match i, hi with
    | 0, _ => exact hc) 9 Tryd.underlying9
theorem dig_one : ∀ n : Fin 10, strOfNums [48 + (n.val : Int)] = digT n.val := by decide +kernel
theorem dig_two : ∀ n : Fin 100, 10 ≤ n.val → digT (n.val / 10) ++ strOfNums [48 + (n.val : Int) % 10] = digT n.val := by decide +kernel
theorem dig_size : ∀ n : Fin 100, (digT n.val).size ≤ 2 := by decide +kernel
set_option maxRecDepth 100000 in
set_option maxHeartbeats 1000000 in
theorem l00Digits_one (n : Nat) (hn : n < 10) (w : World) :
    Calls Tryd.prog 47 #[.int .i64 n] w fun e w' => e = .returned (.string (digT n)) ∧ Below w.heap.size w w' := by
  have HD := hide (dig_one ⟨n, hn⟩)
  dsimp only at HD
  have B0 := hide ((Below.refl w.heap.size w).alloc (Nat.le_refl _) (.cells #[.int .u8 (48 + (n : Int))] 5))
  have X0 := hide (Blk.new w #[.int .u8 (48 + (n : Int))] 5 w.heap.size rfl)
  have hcv := conv_at (48 + (n : Int)) (w.alloc (.cells #[.int .u8 (48 + (n : Int))] 5)) w.heap.size ((unhide X0).cell 0 rfl)
  have w1 : IntKind.i64.wrap (48 + (n : Int)) = 48 + (n : Int) := by simp only [IntKind.wrap, IntKind.bits, IntKind.signed]; simp; omega
  have w2 : IntKind.u8.wrap (48 + (n : Int)) = 48 + (n : Int) := by simp only [IntKind.wrap, IntKind.bits, IntKind.signed]; simp; omega
  have h0 : ¬ (n : Int) < 0 := by omega
  have h1 : (n : Int) < 10 := by omega
  have h2 : ((n : Int) == -9223372036854775808) = false := by rw [beq_eq_false_iff_ne]; omega
  go_enter Tryd.func47, Tryd.ntmps47
  go_wp2_with fail
  go_ret
  exact ⟨by rw [unhide HD]; rfl, unhide B0⟩
set_option maxRecDepth 100000 in
set_option maxHeartbeats 2000000 in
theorem l00Digits_any (n : Nat) (hn : n < 100) (w : World) :
    Calls Tryd.prog 47 #[.int .i64 n] w fun e w' => e = .returned (.string (digT n)) ∧ Below w.heap.size w w' := by
  by_cases h10 : n < 10
  · exact l00Digits_one n h10 w
  · have HD := hide (dig_two ⟨n, hn⟩ (by dsimp only; omega))
    dsimp only at HD
    have HC := hide (fun wx => l00Digits_one (n / 10) (by omega) wx)
    have hz1 : (digT (n / 10)).size ≤ 2 := dig_size ⟨n / 10, by omega⟩
    obtain ⟨q, hqq⟩ : ∃ q : Nat, q = n / 10 := ⟨_, rfl⟩
    have hq : (n : Int).tdiv 10 = (q : Int) := by rw [Int.tdiv_eq_ediv_of_nonneg (by omega)]; omega
    have hq2 : (n : Int) / 10 = (q : Int) := by omega
    rw [← hqq] at HD HC hz1
    have hr : (n : Int).tmod 10 = (n : Int) % 10 := by rw [Int.tmod_eq_emod_of_nonneg (by omega)]
    have w0 : IntKind.i64.wrap (q : Int) = (q : Int) := by simp only [IntKind.wrap, IntKind.bits, IntKind.signed]; simp; omega
    have w1 : IntKind.i64.wrap (48 + (n : Int) % 10) = 48 + (n : Int) % 10 := by simp only [IntKind.wrap, IntKind.bits, IntKind.signed]; simp; omega
    have w2 : IntKind.u8.wrap (48 + (n : Int) % 10) = 48 + (n : Int) % 10 := by simp only [IntKind.wrap, IntKind.bits, IntKind.signed]; simp; omega
    have w3 : IntKind.i64.wrap ((n : Int) % 10) = (n : Int) % 10 := by simp only [IntKind.wrap, IntKind.bits, IntKind.signed]; simp; omega
    have h0 : ¬ (n : Int) < 0 := by omega
    have h1 : ¬ (n : Int) < 10 := by omega
    have h2 : ((n : Int) == -9223372036854775808) = false := by rw [beq_eq_false_iff_ne]; omega
    obtain ⟨x, hx⟩ : ∃ x : Int, x = 48 + (n : Int) % 10 := ⟨_, rfl⟩
    rw [← hx] at HD w1 w2
    have hx3 : 48 + (n : Int) % 10 = x := hx.symm
    clear hx
    have hs1 : (strOfNums [x]).size = 1 := by simp [strOfNums, ByteArray.size]
    clear hqq
    generalize digT q = s at *
    have hlim : ¬ (9223372036854775807 < s.size + 1) := by omega
    generalize digT n = t at *
    go_enter Tryd.func47, Tryd.ntmps47
    go_wp2_with fail
    refine wp_region_noPanic ?_
    refine wp_region_held_drew (S := (fun _ => True)) (by kernel_rfl) ?_ (fun hHeld => ?_)
    · trivial
    refine tkH 0 rfl ?_
    refine tkH 1 rfl ?_
    refine tkH 3 rfl ?_
    refine tkH 4 rfl ?_
    refine tkH 5 rfl ?_
    refine tkH 6 rfl ?_
    have HBq := hide (below_drewN (Below.refl w.heap.size w) 1)
    obtain ⟨wq, hwq⟩ : ∃ wq, wq = w.drew := ⟨_, rfl⟩
    change Hid (Below w.heap.size w w.drew) at HBq
    rw [← hwq] at HBq ⊢
    clear hwq
    refine wpAnyH_ready (rs := [2, 7]) (by kernel_rfl) (by simp) ?_
    refine AllReadyH.cons (o := _) rfl (fun K hK => ?_) (AllReadyH.cons (o := _) rfl (fun K hK => ?_) AllReadyH.nil)
    · skip
      go_simp
      refine (unhide HC wq).mono ?_
      rintro e v1 ⟨rfl, hb⟩
      have HBv1 := hide ((unhide HBq).trans (hb.mono (unhide HBq).size))
      clear hb
      go_wp2_with fail
      refine hK.out _ _ ?_ (fun hHeld => ?_)
      · trivial
      clear hK K
      (try simp only [Act.put, List.getElem_toArray, List.getElem_cons_succ, List.getElem_cons_zero, List.setIfInBounds_toArray, List.set_cons_zero, List.set_cons_succ])
      refine wpAnyH_ready (rs := [7]) (by kernel_rfl) (by simp) ?_
      refine AllReadyH.cons (o := _) rfl (fun K hK => ?_) AllReadyH.nil
      have HBv2 := hide ((unhide HBv1).alloc (unhide HBv1).size (.cells #[.int .u8 x] 5))
      have HXv2 := hide (Blk.new v1 #[.int .u8 x] 5 v1.heap.size rfl)
      go_simp
      refine hK.out _ _ ?_ (fun hHeld => ?_)
      · trivial
      clear hK K
      (try simp only [Act.put, List.getElem_toArray, List.getElem_cons_succ, List.getElem_cons_zero, List.setIfInBounds_toArray, List.set_cons_zero, List.set_cons_succ])
      generalize v1.alloc (.cells #[.int .u8 x] 5) = v2 at *
      generalize hgb : v1.heap.size = gv2 at *
      clear hgb
      refine wpAnyH_ready (rs := [8]) (by kernel_rfl) (by simp) ?_
      refine AllReadyH.cons (o := _) rfl (fun K hK => ?_) AllReadyH.nil
      have hcv := conv_at x v2 gv2 ((unhide HXv2).cell 0 rfl)
      go_simp
      refine hK.out _ _ ?_ (fun hHeld => ?_)
      · trivial
      clear hK K hcv
      (try simp only [Act.put, List.getElem_toArray, List.getElem_cons_succ, List.getElem_cons_zero, List.setIfInBounds_toArray, List.set_cons_zero, List.set_cons_succ])
      refine tkH 9 rfl ?_
      refine tkH 10 rfl ?_
      refine wpAnyH_done (by kernel_rfl) (NoPanic.normal ?_) _
      go_wp2_with fail
      go_ret
      exact ⟨by have h := unhide HD; subst h; rfl, unhide HBv2⟩
    · skip
      have HBv4 := hide ((unhide HBq).alloc (unhide HBq).size (.cells #[.int .u8 x] 5))
      have HXv4 := hide (Blk.new wq #[.int .u8 x] 5 wq.heap.size rfl)
      go_simp
      refine hK.out _ _ ?_ (fun hHeld => ?_)
      · trivial
      clear hK K
      (try simp only [Act.put, List.getElem_toArray, List.getElem_cons_succ, List.getElem_cons_zero, List.setIfInBounds_toArray, List.set_cons_zero, List.set_cons_succ])
      generalize wq.alloc (.cells #[.int .u8 x] 5) = v4 at *
      generalize hgb : wq.heap.size = gv4 at *
      clear hgb
      refine wpAnyH_ready (rs := [2, 8]) (by kernel_rfl) (by simp) ?_
      refine AllReadyH.cons (o := _) rfl (fun K hK => ?_) (AllReadyH.cons (o := _) rfl (fun K hK => ?_) AllReadyH.nil)
      · skip
        go_simp
        refine (unhide HC v4).mono ?_
        rintro e v5 ⟨rfl, hb⟩
        have HBv5 := hide ((unhide HBv4).trans (hb.mono (unhide HBv4).size))
        have HXv5 := hide ((unhide HXv4).below hb)
        clear hb
        go_wp2_with fail
        refine hK.out _ _ ?_ (fun hHeld => ?_)
        · trivial
        clear hK K
        (try simp only [Act.put, List.getElem_toArray, List.getElem_cons_succ, List.getElem_cons_zero, List.setIfInBounds_toArray, List.set_cons_zero, List.set_cons_succ])
        refine wpAnyH_ready (rs := [8]) (by kernel_rfl) (by simp) ?_
        refine AllReadyH.cons (o := _) rfl (fun K hK => ?_) AllReadyH.nil
        have hcv := conv_at x v5 gv4 ((unhide HXv5).cell 0 rfl)
        go_simp
        refine hK.out _ _ ?_ (fun hHeld => ?_)
        · trivial
        clear hK K hcv
        (try simp only [Act.put, List.getElem_toArray, List.getElem_cons_succ, List.getElem_cons_zero, List.setIfInBounds_toArray, List.set_cons_zero, List.set_cons_succ])
        refine tkH 9 rfl ?_
        refine tkH 10 rfl ?_
        refine wpAnyH_done (by kernel_rfl) (NoPanic.normal ?_) _
        go_wp2_with fail
        go_ret
        exact ⟨by have h := unhide HD; subst h; rfl, unhide HBv5⟩
      · skip
        have hcv := conv_at x v4 gv4 ((unhide HXv4).cell 0 rfl)
        go_simp
        refine hK.out _ _ ?_ (fun hHeld => ?_)
        · trivial
        clear hK K hcv
        (try simp only [Act.put, List.getElem_toArray, List.getElem_cons_succ, List.getElem_cons_zero, List.setIfInBounds_toArray, List.set_cons_zero, List.set_cons_succ])
        refine wpAnyH_ready (rs := [2]) (by kernel_rfl) (by simp) ?_
        refine AllReadyH.cons (o := _) rfl (fun K hK => ?_) AllReadyH.nil
        go_simp
        refine (unhide HC v4).mono ?_
        rintro e v8 ⟨rfl, hb⟩
        have HBv8 := hide ((unhide HBv4).trans (hb.mono (unhide HBv4).size))
        clear hb
        go_wp2_with fail
        refine hK.out _ _ ?_ (fun hHeld => ?_)
        · trivial
        clear hK K
        (try simp only [Act.put, List.getElem_toArray, List.getElem_cons_succ, List.getElem_cons_zero, List.setIfInBounds_toArray, List.set_cons_zero, List.set_cons_succ])
        refine tkH 9 rfl ?_
        refine tkH 10 rfl ?_
        refine wpAnyH_done (by kernel_rfl) (NoPanic.normal ?_) _
        go_wp2_with fail
        go_ret
        exact ⟨by have h := unhide HD; subst h; rfl, unhide HBv8⟩
end Go.Proofs.YtnajpeaieeaflaaDoor
namespace Go.Proofs.YtnajpeaieeaflaaDoor.Sha
open Go.ChangeShapes Go.WideShapes Go.ChangeAt Go.RowKit
set_option linter.unusedVariables false
set_option linter.unusedSimpArgs false
set_option maxRecDepth 100000

theorem kdig : ∀ i : Fin 40, (⟨#[107]⟩ : ByteArray) ++ digT i.val = keyN (24 + i.val) := by decide +kernel
set_option maxHeartbeats 1000000 in
/-- How many leaves a drawn map has. -/
theorem sizeO_spec (o : Option Tr) (h : DrM o) (S : Nat → Prop) (kv : Value) (w : World) (hB : Brs S w kv (brOf o).kids) :
    Calls Tryd.prog 43 #[.agg #[.string (brOf o).key, .string (brOf o).val, .int .i64 (brOf o).at_, kv]] w fun e w' => e = .returned (.int .i64 ((lvO o : Nat) : Int)) ∧ Below w.heap.size w w' := by
  cases o with
  | some t => exact l07Size_any t h.ok (Nat.le_trans h.sz (by omega)) S kv w hB
  | none =>
    obtain ⟨sa, cap, rfl, hcap, hcm⟩ := hB.shape
    have B0 := hide ((Below.refl w.heap.size w).alloc (Nat.le_refl _) (.cells #[.string ⟨#[]⟩, .string ⟨#[]⟩, .int .i64 0, .slice sa 0 cap] 25))
    have HE := hide (fun wx => l07Empty_any ⟨#[]⟩ ⟨#[]⟩ 0 [] sa cap wx (by simp))
    have he : emptyBr (.mk ⟨#[]⟩ ⟨#[]⟩ 0 []) = true := (empty_iff _ _ _ _).2 ⟨rfl, rfl, rfl, rfl⟩
    rw [he] at HE
    simp only [List.length_nil] at HE
    clear he hB
    show Calls _ _ #[.agg #[.string ⟨#[]⟩, .string ⟨#[]⟩, .int .i64 0, .slice sa 0 cap]] w _
    go_enter Tryd.func43, Tryd.ntmps43
    go_wp2_with fail
    generalize w.alloc (.cells #[.string ⟨#[]⟩, .string ⟨#[]⟩, .int .i64 0, .slice sa 0 cap] 25) = w1 at *
    refine (unhide HE w1).mono ?_
    rintro e w2 ⟨rfl, hb2⟩
    have B2 := hide ((unhide B0).trans (hb2.mono (unhide B0).size))
    clear hb2
    go_wp2_with fail
    go_ret
    exact ⟨rfl, unhide B2⟩

theorem boundS {S : Nat → Prop} {w : World} {v : Value} {l : List Br} (h : Brs S w v l) : Brs (fun x => S x ∧ x < w.heap.size) w v l := by
  induction h with
  | nil a cap hc => exact .nil a cap hc
  | row b off cap l kv h0 h1 h2 h3 h4 h5 h6 h7 ih => exact .row b off cap l kv h0 h1 h2 h3 ⟨h4, h3⟩ h5 h6 ih
/-- What is carried on while a map is drawn: the source, the boxes, the map. -/
structure LpI (w : World) (b rb bb : Nat) (a : Option Addr) (cap : Nat) (l : List Int) (M : Int) (n : Nat) (o : Option Tr) (kv : Value) (wr : World) : Prop where
  src : Src wr b a cap l M
  tch : Touch (fun k => k = b) w wr
  rbk : Blk wr rb [.string ⟨#[]⟩, .string ⟨#[]⟩, .int .i64 0, .slice none 0 0]
  bbk : Blk wr bb [.string (brOf o).key, .string (brOf o).val, .int .i64 (brOf o).at_, kv]
  brs : Brs (fun x => bb < x ∧ x < wr.heap.size) wr kv (brOf o).kids
  dr : DrM o
  ki : KIO n o
  lo : b < rb
  lb : rb < bb
  sz : w.heap.size ≤ rb
/-- The source alone was asked. -/
theorem LpI.ask {w : World} {b rb bb : Nat} {a : Option Addr} {cap : Nat} {l : List Int} {M M' : Int} {n : Nat} {o : Option Tr} {kv : Value} {wr wx : World} (h : LpI w b rb bb a cap l M n o kv wr) (hs : Src wx b a cap l M') (ht : Touch (fun k => k = b) wr wx) : LpI w b rb bb a cap l M' n o kv wx :=
  ⟨hs, h.tch.trans ht (fun _ _ e => e), h.rbk.kept ht (by have := h.lo; omega), h.bbk.kept ht (by have := h.lo; have := h.lb; omega), (h.brs.touch ht (fun k hk e => by have := h.lo; have := h.lb; have := hk.1; omega)).mono (fun k hk => ⟨hk.1, Nat.lt_of_lt_of_le hk.2 ht.size⟩), h.dr, h.ki, h.lo, h.lb, h.sz⟩
theorem LpI.bel {w : World} {b rb bb : Nat} {a : Option Addr} {cap : Nat} {l : List Int} {M : Int} {n : Nat} {o : Option Tr} {kv : Value} {wr wx : World} (h : LpI w b rb bb a cap l M n o kv wr) (hb : Below wr.heap.size wr wx) : LpI w b rb bb a cap l M n o kv wx :=
  h.ask (Src.bel h.src hb) (Touch.ofBelow hb)
/-- A key was put, the map stored. -/
theorem LpI.put {w : World} {b rb bb : Nat} {a : Option Addr} {cap : Nat} {l : List Int} {M : Int} {n n' : Nat} {o o' : Option Tr} {kv kv' : Value} {wr wx : World} (h : LpI w b rb bb a cap l M n o kv wr) (hb : Below wr.heap.size wr wx)
    (hB : Brs (fun x => (bb < x ∧ x < wr.heap.size) ∨ wr.heap.size ≤ x) wx kv' (brOf o').kids) (hd : DrM o') (hk : KIO n' o') : LpI w b rb bb a cap l M n' o' kv' (set4 wx bb (.string (brOf o').key) (.string (brOf o').val) (.int .i64 (brOf o').at_) kv') := by
  have h1 := h.bel hb
  have hT := set4_touch wx bb (.string (brOf o').key) (.string (brOf o').val) (.int .i64 (brOf o').at_) kv'
  have hbb := h.bbk.1
  refine ⟨?_, h1.tch.trans hT (fun k hk e => by have := h.sz; have := h.lb; omega), h1.rbk.kept hT (by have := h.lb; omega), set4_blk h1.bbk _ _ _ _, ?_, hd, hk, h.lo, h.lb, h.sz⟩
  · have hs := h1.src
    refine hs.grown (r := some bb) ?_ (fun k e => by cases e; have := h.lo; have := h.lb; omega)
    exact ⟨hT.os, hT.tape, hT.output, hT.size, fun k hk hn => hT.block k hk (fun e => hn (by rw [e]))⟩
  · exact ((boundS hB).touch hT (fun k hk e => by have := hk.1; omega)).mono (fun k hk => ⟨by have := hk.1; omega, Nat.lt_of_lt_of_le hk.2 hT.size⟩)
theorem put_one {o : Option Tr} (h : DrM o) (hlt : lvO o < 40) {j : Nat} (hj : j < 64) {val : ByteArray} (hv : val.size ≤ 60) : DrM (some (mpT o (keyN j) val)) := by
  cases o with
  | none => exact leaf_dr hj hv
  | some t => exact put_dr h hj hv (by have h1 : t.lvN < 40 := hlt; omega)
theorem put_ki {n : Nat} {o : Option Tr} (h : KIO n o) {j : Nat} (hj : j < n) (val : ByteArray) : KIO n (some (mpT o (keyN j) val)) := by
  cases o with
  | none => exact ⟨j, hj, rfl⟩
  | some t => exact KI.put _ _ _ _ ⟨j, hj, rfl⟩ h
theorem KIO.mono {n m : Nat} (h : n ≤ m) {o : Option Tr} (hk : KIO n o) : KIO m o := by
  cases o with
  | none => trivial
  | some t => exact KI.mono h hk
/-- A key that is none of a map's first keys makes it greater by one. -/
theorem put_more {n : Nat} {o : Option Tr} (h : DrM o) (hk : KIO n o) (hn : n < 64) (val : ByteArray) : lvO (some (mpT o (keyN n) val)) = lvO o + 1 := by
  cases o with
  | none => rfl
  | some t =>
    have hat : putAt t (keyN n) ≤ 256 := fd_le _ _
    obtain ⟨i, hi, hli⟩ := KI.lead (kh (keyN n)) (t := t) hk
    have hok := (lead_ok (kh (keyN n)) t h.ok).1
    have h32 := kh_size (k := (leadL (kh (keyN n)) t).1) (by have := (okK_iff.1 hok).2; omega)
    have hks := kh_size (k := keyN n) (by have := (okK_iff.1 (keys_ok ⟨n, hn⟩)).2; dsimp only at this; omega)
    have hlt : putAt t (keyN n) < 256 := by
      refine (fd_ne h32 hks).2 (fun eq => ?_)
      rw [hli] at eq
      have e1 := kh_inj (keyN_mem (by omega)) (keyN_mem hn) eq
      have e2 := keyN_inj ⟨i, by omega⟩ ⟨n, hn⟩ e1
      have e3 : i = n := congrArg Fin.val e2
      omega
    show (putT (kh (keyN n)) (putAt t (keyN n)) (keyN n) val t).lvN = t.lvN + 1
    rw [putT_lvN _ _ _ _ hat t h.ok, if_pos hlt]

set_option maxHeartbeats 8000000 in
theorem drawBranch_any (w : World) (b : Nat) (a : Option Addr) (cap : Nat) (l : List Int) (M : Int) (h : Src w b a cap l M) (hM : M ≤ 1000) :
    Calls Tryd.prog 15 #[.pointer (some ⟨b, 0, none⟩)] w fun e w' => ∃ o sa n c, DrM o ∧ e = .returned (.agg #[.string (brOf o).key, .string (brOf o).val, .int .i64 (brOf o).at_, .slice sa n c]) ∧ Brs (fun x => w.heap.size ≤ x) w' (.slice sa n c) (brOf o).kids ∧ Touch (fun k => k = b) w w' := by
  have hbl := h.lt
  have I0 : Hid (LpI w b w.heap.size (w.heap.size + 1) a cap l M 24 none (.slice none 0 0) ((w.alloc (.cells #[.string ⟨#[]⟩, .string ⟨#[]⟩, .int .i64 0, .slice none 0 0] 25)).alloc (.cells #[.string ⟨#[]⟩, .string ⟨#[]⟩, .int .i64 0, .slice none 0 0] 25))) := hide
    ⟨(h.alloc _).alloc _, ((Touch.refl _ w).alloc _).alloc _, (Blk.new w #[.string ⟨#[]⟩, .string ⟨#[]⟩, .int .i64 0, .slice none 0 0] 25 w.heap.size rfl).alloc _, Blk.new _ #[.string ⟨#[]⟩, .string ⟨#[]⟩, .int .i64 0, .slice none 0 0] 25 (w.heap.size + 1) (by simp), .nil _ _ (by unfold maxLen; omega), ⟨trivial, trivial, trivial, Nat.zero_le _, trivial⟩, trivial, hbl, by omega, Nat.le_refl _⟩
  clear h
  go_enter Tryd.func15, Tryd.ntmps15
  go_wp2_with fail
  generalize (w.alloc (.cells #[.string ⟨#[]⟩, .string ⟨#[]⟩, .int .i64 0, .slice none 0 0] 25)).alloc (.cells #[.string ⟨#[]⟩, .string ⟨#[]⟩, .int .i64 0, .slice none 0 0] 25) = w0 at *
  refine (srcSizeN_any 12 (by omega) w0 b a cap l M (unhide I0).src (by omega)).mono ?_
  rintro e w1 ⟨n, rfl, hn1, hn2, rfl⟩
  have q1 : IntKind.i64.wrap (n + 3) = n + 3 := wrapS _ (by omega) (by omega)
  go_wp2_with fail
  refine (srcNext_any (n + 3) w1 b a cap l M (unhide I0).src (by omega) (by omega) (by omega)).mono ?_
  rintro e w2 ⟨x, rfl, hx0, hx1, hS, hO⟩
  obtain ⟨i0, rfl⟩ : ∃ i : Nat, x = (i : Int) := ⟨x.toNat, by omega⟩
  have hi0 : i0 ≤ 15 := by omega
  have I1 := hide ((unhide I0).ask hS hO.touch)
  clear hS hO I0 q1 hx0 hx1 hn1 hn2
  go_upto_block 0 with fail
  go_cut [4] (fun s wx => ∃ o kv M', M' ≤ M + 200 ∧ Hid (LpI w b w.heap.size (w.heap.size + 1) a cap l M' 24 o kv wx))
  case first =>
    go_wp2_with fail
    go_loopw [4] (fun iv wr => ∃ (i : Nat) (o : Option Tr) (kv : Value) (M' : Int), iv = .int .i64 (i : Int) ∧ i ≤ 15 ∧ M' ≤ M + 3 + 9 * (15 - (i : Int)) ∧ Hid (LpI w b w.heap.size (w.heap.size + 1) a cap l M' 24 o kv wr)) (fun iv _ => (intOf iv).toNat)
    case atStart => exact ⟨i0, none, _, _, rfl, hi0, by omega, I1⟩
    case round =>
      obtain ⟨i, o, kv, M', rfl, hi, hM', HI⟩ := hrel
      by_cases h0 : i = 0
      · subst h0
        go_wp2_with fail
        go_meet
        exact ⟨o, kv, M', by omega, HI⟩
      have hi1 : (0 : Int) < (i : Int) := by omega
      have x0 := (unhide HI).bbk.cell 0 rfl
      have x1 := (unhide HI).bbk.cell 1 rfl
      have x2 := (unhide HI).bbk.cell 2 rfl
      have x3 := (unhide HI).bbk.cell 3 rfl
      go_wp2_with fail
      refine (sizeO_spec o (unhide HI).dr _ kv wr (unhide HI).brs).mono ?_
      rintro e w3 ⟨rfl, hb⟩
      have I3 := hide ((unhide HI).bel hb)
      clear hb HI x0 x1 x2 x3
      by_cases h40 : lvO o < 40
      · have h40' : ((lvO o : Nat) : Int) < 40 := by omega
        go_upto_region 5 with fail
        have q2 : IntKind.i64.wrap ((i : Int) - 1) = (i : Int) - 1 := wrapS _ (by omega) (by omega)
        clear h40'
        refine wp_region_noPanic ?_
        refine wp_region_held_drew (S := (fun _ => True)) (by kernel_rfl) ?_ (fun hHeld => ?_)
        · exact trivial
        have I1 := hide ((unhide I3).bel (show Below w3.heap.size w3 w3.drew from below_drewN (Below.refl _ w3) 1))
        generalize w3.drew = wd at *
        refine tkH 1 rfl ?_
        refine tkH 3 rfl ?_
        refine wpAnyH_ready (rs := [0, 2]) (by kernel_rfl) (by simp) ?_
        refine AllReadyH.cons (o := _) rfl (fun K hK => ?_) (AllReadyH.cons (o := _) rfl (fun K hK => ?_) AllReadyH.nil)
        · skip
          have x2_0 := (unhide I1).bbk.cell 0 rfl
          have x2_1 := (unhide I1).bbk.cell 1 rfl
          have x2_2 := (unhide I1).bbk.cell 2 rfl
          have x2_3 := (unhide I1).bbk.cell 3 rfl
          go_simp
          refine hK.out _ _ trivial (fun hHeld => ?_)
          clear hK K
          (try simp only [Act.put, List.getElem_toArray, List.getElem_cons_succ, List.getElem_cons_zero, List.setIfInBounds_toArray, List.set_cons_zero, List.set_cons_succ])
          clear x2_0 x2_1 x2_2 x2_3
          refine wpAnyH_ready (rs := [2]) (by kernel_rfl) (by simp) ?_
          refine AllReadyH.cons (o := _) rfl (fun K hK => ?_) AllReadyH.nil
          go_simp
          refine (mapKey_any _ b a cap l _ (unhide I1).src (by omega)).mono ?_
          rintro e v4 ⟨j, hj, rfl, hS, hT⟩
          have I3 := hide ((unhide I1).ask hS hT)
          clear hS hT
          go_wp2_with fail
          refine hK.out _ _ trivial (fun hHeld => ?_)
          clear hK K
          (try simp only [Act.put, List.getElem_toArray, List.getElem_cons_succ, List.getElem_cons_zero, List.setIfInBounds_toArray, List.set_cons_zero, List.set_cons_succ])
          refine wpAnyH_ready (rs := [4]) (by kernel_rfl) (by simp) ?_
          refine AllReadyH.cons (o := _) rfl (fun K hK => ?_) AllReadyH.nil
          go_simp
          refine (datumM_any _ b a cap l _ (unhide I3).src (by omega)).mono ?_
          rintro e v6 ⟨s, rfl, hs, hS, hT⟩
          have I5 := hide ((unhide I3).ask hS hT)
          clear hS hT
          go_wp2_with fail
          refine hK.out _ _ trivial (fun hHeld => ?_)
          clear hK K
          (try simp only [Act.put, List.getElem_toArray, List.getElem_cons_succ, List.getElem_cons_zero, List.setIfInBounds_toArray, List.set_cons_zero, List.set_cons_succ])
          refine wpAnyH_ready (rs := [5]) (by kernel_rfl) (by simp) ?_
          refine AllReadyH.cons (o := _) rfl (fun K hK => ?_) AllReadyH.nil
          go_simp
          have hsz := (unhide I5).bbk.1
          refine (l07Put_any o (unhide I5).dr.ok (unhide I5).dr.ri (unhide I5).dr.sp (keyN j) s ⟨keys_ok ⟨j, by omega⟩, hs⟩ _ kv _ (fun x hx => hx.2) (unhide I5).brs).mono ?_
          rintro e p7 ⟨sa', n', c', rfl, hB', hb'⟩
          have I8 := hide ((unhide I5).bel hb')
          have R9 := hide (LpI.put (unhide I5) hb' (o' := some (mpT o (keyN j) s)) hB' (put_one (unhide I5).dr h40 (by omega) hs) (put_ki (unhide I5).ki hj s))
          clear hB' hb'
          go_wp2_with fail
          refine hK.out _ _ trivial (fun hHeld => ?_)
          clear hK K
          (try simp only [Act.put, List.getElem_toArray, List.getElem_cons_succ, List.getElem_cons_zero, List.setIfInBounds_toArray, List.set_cons_zero, List.set_cons_succ])
          refine wpAnyH_ready (rs := [6]) (by kernel_rfl) (by simp) ?_
          refine AllReadyH.cons (o := _) rfl (fun K hK => ?_) AllReadyH.nil
          have r10_0 := (unhide I8).bbk.cell 0 rfl
          have r10f0 := (unhide I8).bbk.fro 0
          have r10_1 := (unhide I8).bbk.cell 1 rfl
          have r10f1 := (unhide I8).bbk.fro 1
          have r10_2 := (unhide I8).bbk.cell 2 rfl
          have r10f2 := (unhide I8).bbk.fro 2
          have r10_3 := (unhide I8).bbk.cell 3 rfl
          have r10f3 := (unhide I8).bbk.fro 3
          go_simp
          refine hK.out _ _ trivial (fun hHeld => ?_)
          clear hK K
          (try simp only [Act.put, List.getElem_toArray, List.getElem_cons_succ, List.getElem_cons_zero, List.setIfInBounds_toArray, List.set_cons_zero, List.set_cons_succ])
          refine wpAnyH_done (by kernel_rfl) (NoPanic.normal ?_) _
          clear hHeld
          go_wp2_with fail
          refine ⟨⟨i - 1, _, _, _, congrArg (Value.int .i64) (by omega), by omega, ?_, R9⟩, ?_⟩
          · omega
          · simp [intOf]; omega
        · skip
          go_simp
          refine (mapKey_any _ b a cap l _ (unhide I1).src (by omega)).mono ?_
          rintro e v12 ⟨j, hj, rfl, hS, hT⟩
          have I11 := hide ((unhide I1).ask hS hT)
          clear hS hT
          go_wp2_with fail
          refine hK.out _ _ trivial (fun hHeld => ?_)
          clear hK K
          (try simp only [Act.put, List.getElem_toArray, List.getElem_cons_succ, List.getElem_cons_zero, List.setIfInBounds_toArray, List.set_cons_zero, List.set_cons_succ])
          refine wpAnyH_ready (rs := [0, 4]) (by kernel_rfl) (by simp) ?_
          refine AllReadyH.cons (o := _) rfl (fun K hK => ?_) (AllReadyH.cons (o := _) rfl (fun K hK => ?_) AllReadyH.nil)
          · skip
            have x13_0 := (unhide I11).bbk.cell 0 rfl
            have x13_1 := (unhide I11).bbk.cell 1 rfl
            have x13_2 := (unhide I11).bbk.cell 2 rfl
            have x13_3 := (unhide I11).bbk.cell 3 rfl
            go_simp
            refine hK.out _ _ trivial (fun hHeld => ?_)
            clear hK K
            (try simp only [Act.put, List.getElem_toArray, List.getElem_cons_succ, List.getElem_cons_zero, List.setIfInBounds_toArray, List.set_cons_zero, List.set_cons_succ])
            clear x13_0 x13_1 x13_2 x13_3
            refine wpAnyH_ready (rs := [4]) (by kernel_rfl) (by simp) ?_
            refine AllReadyH.cons (o := _) rfl (fun K hK => ?_) AllReadyH.nil
            go_simp
            refine (datumM_any _ b a cap l _ (unhide I11).src (by omega)).mono ?_
            rintro e v15 ⟨s, rfl, hs, hS, hT⟩
            have I14 := hide ((unhide I11).ask hS hT)
            clear hS hT
            go_wp2_with fail
            refine hK.out _ _ trivial (fun hHeld => ?_)
            clear hK K
            (try simp only [Act.put, List.getElem_toArray, List.getElem_cons_succ, List.getElem_cons_zero, List.setIfInBounds_toArray, List.set_cons_zero, List.set_cons_succ])
            refine wpAnyH_ready (rs := [5]) (by kernel_rfl) (by simp) ?_
            refine AllReadyH.cons (o := _) rfl (fun K hK => ?_) AllReadyH.nil
            go_simp
            have hsz := (unhide I14).bbk.1
            refine (l07Put_any o (unhide I14).dr.ok (unhide I14).dr.ri (unhide I14).dr.sp (keyN j) s ⟨keys_ok ⟨j, by omega⟩, hs⟩ _ kv _ (fun x hx => hx.2) (unhide I14).brs).mono ?_
            rintro e p16 ⟨sa', n', c', rfl, hB', hb'⟩
            have I17 := hide ((unhide I14).bel hb')
            have R18 := hide (LpI.put (unhide I14) hb' (o' := some (mpT o (keyN j) s)) hB' (put_one (unhide I14).dr h40 (by omega) hs) (put_ki (unhide I14).ki hj s))
            clear hB' hb'
            go_wp2_with fail
            refine hK.out _ _ trivial (fun hHeld => ?_)
            clear hK K
            (try simp only [Act.put, List.getElem_toArray, List.getElem_cons_succ, List.getElem_cons_zero, List.setIfInBounds_toArray, List.set_cons_zero, List.set_cons_succ])
            refine wpAnyH_ready (rs := [6]) (by kernel_rfl) (by simp) ?_
            refine AllReadyH.cons (o := _) rfl (fun K hK => ?_) AllReadyH.nil
            have r19_0 := (unhide I17).bbk.cell 0 rfl
            have r19f0 := (unhide I17).bbk.fro 0
            have r19_1 := (unhide I17).bbk.cell 1 rfl
            have r19f1 := (unhide I17).bbk.fro 1
            have r19_2 := (unhide I17).bbk.cell 2 rfl
            have r19f2 := (unhide I17).bbk.fro 2
            have r19_3 := (unhide I17).bbk.cell 3 rfl
            have r19f3 := (unhide I17).bbk.fro 3
            go_simp
            refine hK.out _ _ trivial (fun hHeld => ?_)
            clear hK K
            (try simp only [Act.put, List.getElem_toArray, List.getElem_cons_succ, List.getElem_cons_zero, List.setIfInBounds_toArray, List.set_cons_zero, List.set_cons_succ])
            refine wpAnyH_done (by kernel_rfl) (NoPanic.normal ?_) _
            clear hHeld
            go_wp2_with fail
            refine ⟨⟨i - 1, _, _, _, congrArg (Value.int .i64) (by omega), by omega, ?_, R18⟩, ?_⟩
            · omega
            · simp [intOf]; omega
          · skip
            go_simp
            refine (datumM_any _ b a cap l _ (unhide I11).src (by omega)).mono ?_
            rintro e v21 ⟨s, rfl, hs, hS, hT⟩
            have I20 := hide ((unhide I11).ask hS hT)
            clear hS hT
            go_wp2_with fail
            refine hK.out _ _ trivial (fun hHeld => ?_)
            clear hK K
            (try simp only [Act.put, List.getElem_toArray, List.getElem_cons_succ, List.getElem_cons_zero, List.setIfInBounds_toArray, List.set_cons_zero, List.set_cons_succ])
            refine wpAnyH_ready (rs := [0]) (by kernel_rfl) (by simp) ?_
            refine AllReadyH.cons (o := _) rfl (fun K hK => ?_) AllReadyH.nil
            have x22_0 := (unhide I20).bbk.cell 0 rfl
            have x22_1 := (unhide I20).bbk.cell 1 rfl
            have x22_2 := (unhide I20).bbk.cell 2 rfl
            have x22_3 := (unhide I20).bbk.cell 3 rfl
            go_simp
            refine hK.out _ _ trivial (fun hHeld => ?_)
            clear hK K
            (try simp only [Act.put, List.getElem_toArray, List.getElem_cons_succ, List.getElem_cons_zero, List.setIfInBounds_toArray, List.set_cons_zero, List.set_cons_succ])
            clear x22_0 x22_1 x22_2 x22_3
            refine wpAnyH_ready (rs := [5]) (by kernel_rfl) (by simp) ?_
            refine AllReadyH.cons (o := _) rfl (fun K hK => ?_) AllReadyH.nil
            go_simp
            have hsz := (unhide I20).bbk.1
            refine (l07Put_any o (unhide I20).dr.ok (unhide I20).dr.ri (unhide I20).dr.sp (keyN j) s ⟨keys_ok ⟨j, by omega⟩, hs⟩ _ kv _ (fun x hx => hx.2) (unhide I20).brs).mono ?_
            rintro e p23 ⟨sa', n', c', rfl, hB', hb'⟩
            have I24 := hide ((unhide I20).bel hb')
            have R25 := hide (LpI.put (unhide I20) hb' (o' := some (mpT o (keyN j) s)) hB' (put_one (unhide I20).dr h40 (by omega) hs) (put_ki (unhide I20).ki hj s))
            clear hB' hb'
            go_wp2_with fail
            refine hK.out _ _ trivial (fun hHeld => ?_)
            clear hK K
            (try simp only [Act.put, List.getElem_toArray, List.getElem_cons_succ, List.getElem_cons_zero, List.setIfInBounds_toArray, List.set_cons_zero, List.set_cons_succ])
            refine wpAnyH_ready (rs := [6]) (by kernel_rfl) (by simp) ?_
            refine AllReadyH.cons (o := _) rfl (fun K hK => ?_) AllReadyH.nil
            have r26_0 := (unhide I24).bbk.cell 0 rfl
            have r26f0 := (unhide I24).bbk.fro 0
            have r26_1 := (unhide I24).bbk.cell 1 rfl
            have r26f1 := (unhide I24).bbk.fro 1
            have r26_2 := (unhide I24).bbk.cell 2 rfl
            have r26f2 := (unhide I24).bbk.fro 2
            have r26_3 := (unhide I24).bbk.cell 3 rfl
            have r26f3 := (unhide I24).bbk.fro 3
            go_simp
            refine hK.out _ _ trivial (fun hHeld => ?_)
            clear hK K
            (try simp only [Act.put, List.getElem_toArray, List.getElem_cons_succ, List.getElem_cons_zero, List.setIfInBounds_toArray, List.set_cons_zero, List.set_cons_succ])
            refine wpAnyH_done (by kernel_rfl) (NoPanic.normal ?_) _
            clear hHeld
            go_wp2_with fail
            refine ⟨⟨i - 1, _, _, _, congrArg (Value.int .i64) (by omega), by omega, ?_, R25⟩, ?_⟩
            · omega
            · simp [intOf]; omega
      · have h40' : ¬ ((lvO o : Nat) : Int) < 40 := by omega
        go_wp2_with fail
        go_meet
        exact ⟨o, kv, M', by omega, I3⟩
  case rest =>
    obtain ⟨o, kv, M', hM', HI⟩ := hcut
    go_wp2_with fail
    refine (chance_any 40 wc b a cap l M' (unhide HI).src (by omega) (by omega) (by omega)).mono ?_
    rintro e w2 ⟨q, rfl, hS, hO⟩
    have I2 := hide ((unhide HI).ask hS hO.touch)
    clear hS hO HI
    go_upto_if 28 with fail
    go_cut [] (fun wx => ∃ o kv n', Hid (LpI w b w.heap.size (w.heap.size + 1) a cap l (M' + 3) n' o kv wx))
    case first =>
      cases q
      · go_wp2_with fail
        go_meet
        exact ⟨o, kv, _, I2⟩
      · go_wp2_with fail
        go_loopw [5] (fun iv wr => ∃ (i : Nat) (o : Option Tr) (kv : Value), iv = .int .i64 (i : Int) ∧ i ≤ 40 ∧ i ≤ lvO o ∧ Hid (LpI w b w.heap.size (w.heap.size + 1) a cap l (M' + 3) (24 + i) o kv wr)) (fun iv _ => 40 - (intOf iv).toNat)
        case atStart => exact ⟨0, o, kv, rfl, by omega, Nat.zero_le _, I2⟩
        case round =>
          clear I2
          obtain ⟨i, o, kv, rfl, hi, hil, HI⟩ := hrel
          have x0 := (unhide HI).bbk.cell 0 rfl
          have x1 := (unhide HI).bbk.cell 1 rfl
          have x2 := (unhide HI).bbk.cell 2 rfl
          have x3 := (unhide HI).bbk.cell 3 rfl
          go_wp2_with fail
          refine (sizeO_spec o (unhide HI).dr _ kv wr (unhide HI).brs).mono ?_
          rintro e w5 ⟨rfl, hb⟩
          have I5 := hide ((unhide HI).bel hb)
          clear hb x0 x1 x2 x3
          have HI0 := HI
          clear HI
          by_cases h40 : lvO o < 40
          · have h40' : ((lvO o : Nat) : Int) < 40 := by omega
            go_upto_region 10 with fail
            clear h40'
            have HKD := hide (kdig ⟨i, by omega⟩)
            have HDG := hide (fun wx => l00Digits_any i (by omega) wx)
            have hdz := dig_size ⟨i, by omega⟩
            dsimp only at HKD hdz
            generalize digT i = dg at *
            have hz : (⟨#[107]⟩ : ByteArray).size + dg.size ≤ 3 := by show 1 + dg.size ≤ 3; omega
            have hz2 : ¬ 9223372036854775807 < 1 + dg.size := by omega
            refine wp_region_noPanic ?_
            refine wp_region_held_drew (S := (fun _ => True)) (by kernel_rfl) ?_ (fun hHeld => ?_)
            · exact trivial
            have I27 := hide ((unhide I5).bel (show Below w5.heap.size w5 w5.drew from below_drewN (Below.refl _ w5) 1))
            generalize w5.drew = wd at *
            refine tkH 1 rfl ?_
            refine wpAnyH_ready (rs := [0, 2]) (by kernel_rfl) (by simp) ?_
            refine AllReadyH.cons (o := _) rfl (fun K hK => ?_) (AllReadyH.cons (o := _) rfl (fun K hK => ?_) AllReadyH.nil)
            · skip
              have x28_0 := (unhide I27).bbk.cell 0 rfl
              have x28_1 := (unhide I27).bbk.cell 1 rfl
              have x28_2 := (unhide I27).bbk.cell 2 rfl
              have x28_3 := (unhide I27).bbk.cell 3 rfl
              go_simp
              refine hK.out _ _ trivial (fun hHeld => ?_)
              clear hK K
              (try simp only [Act.put, List.getElem_toArray, List.getElem_cons_succ, List.getElem_cons_zero, List.setIfInBounds_toArray, List.set_cons_zero, List.set_cons_succ])
              clear x28_0 x28_1 x28_2 x28_3
              refine wpAnyH_ready (rs := [2]) (by kernel_rfl) (by simp) ?_
              refine AllReadyH.cons (o := _) rfl (fun K hK => ?_) AllReadyH.nil
              go_simp
              refine (unhide HDG _).mono ?_
              rintro e v30 ⟨rfl, hb⟩
              have I29 := hide ((unhide I27).bel hb)
              clear hb
              go_wp2_with fail
              refine hK.out _ _ trivial (fun hHeld => ?_)
              clear hK K
              (try simp only [Act.put, List.getElem_toArray, List.getElem_cons_succ, List.getElem_cons_zero, List.setIfInBounds_toArray, List.set_cons_zero, List.set_cons_succ])
              refine tkH 3 rfl ?_
              refine wpAnyH_ready (rs := [4]) (by kernel_rfl) (by simp) ?_
              refine AllReadyH.cons (o := _) rfl (fun K hK => ?_) AllReadyH.nil
              go_simp
              rw [unhide HKD]
              have hsz := (unhide I29).bbk.1
              refine (l07Put_any o (unhide I29).dr.ok (unhide I29).dr.ri (unhide I29).dr.sp (keyN (24 + i)) ⟨#[118]⟩ ⟨keys_ok ⟨24 + i, by omega⟩, (by decide)⟩ _ kv _ (fun x hx => hx.2) (unhide I29).brs).mono ?_
              rintro e p31 ⟨sa', n', c', rfl, hB', hb'⟩
              have I32 := hide ((unhide I29).bel hb')
              have R33 := hide (LpI.put (unhide I29) hb' (o' := some (mpT o (keyN (24 + i)) ⟨#[118]⟩)) hB' (put_one (unhide I29).dr h40 (by omega) (by decide)) (put_ki (KIO.mono (show 24 + i ≤ 24 + (i + 1) by omega) (unhide I29).ki) (by omega) _))
              clear hB' hb'
              go_wp2_with fail
              refine hK.out _ _ trivial (fun hHeld => ?_)
              clear hK K
              (try simp only [Act.put, List.getElem_toArray, List.getElem_cons_succ, List.getElem_cons_zero, List.setIfInBounds_toArray, List.set_cons_zero, List.set_cons_succ])
              refine wpAnyH_ready (rs := [5]) (by kernel_rfl) (by simp) ?_
              refine AllReadyH.cons (o := _) rfl (fun K hK => ?_) AllReadyH.nil
              have r34_0 := (unhide I32).bbk.cell 0 rfl
              have r34f0 := (unhide I32).bbk.fro 0
              have r34_1 := (unhide I32).bbk.cell 1 rfl
              have r34f1 := (unhide I32).bbk.fro 1
              have r34_2 := (unhide I32).bbk.cell 2 rfl
              have r34f2 := (unhide I32).bbk.fro 2
              have r34_3 := (unhide I32).bbk.cell 3 rfl
              have r34f3 := (unhide I32).bbk.fro 3
              go_simp
              refine hK.out _ _ trivial (fun hHeld => ?_)
              clear hK K
              (try simp only [Act.put, List.getElem_toArray, List.getElem_cons_succ, List.getElem_cons_zero, List.setIfInBounds_toArray, List.set_cons_zero, List.set_cons_succ])
              refine wpAnyH_done (by kernel_rfl) (NoPanic.normal ?_) _
              clear hHeld
              go_wp2_with fail
              refine ⟨⟨i + 1, _, _, by go_num, by omega, ?_, R33⟩, ?_⟩
              · rw [put_more (unhide HI0).dr (unhide HI0).ki (by omega)]; omega
              · simp [intOf]; omega
            · skip
              go_simp
              refine (unhide HDG _).mono ?_
              rintro e v36 ⟨rfl, hb⟩
              have I35 := hide ((unhide I27).bel hb)
              clear hb
              go_wp2_with fail
              refine hK.out _ _ trivial (fun hHeld => ?_)
              clear hK K
              (try simp only [Act.put, List.getElem_toArray, List.getElem_cons_succ, List.getElem_cons_zero, List.setIfInBounds_toArray, List.set_cons_zero, List.set_cons_succ])
              refine tkH 3 rfl ?_
              refine wpAnyH_ready (rs := [0]) (by kernel_rfl) (by simp) ?_
              refine AllReadyH.cons (o := _) rfl (fun K hK => ?_) AllReadyH.nil
              have x37_0 := (unhide I35).bbk.cell 0 rfl
              have x37_1 := (unhide I35).bbk.cell 1 rfl
              have x37_2 := (unhide I35).bbk.cell 2 rfl
              have x37_3 := (unhide I35).bbk.cell 3 rfl
              go_simp
              refine hK.out _ _ trivial (fun hHeld => ?_)
              clear hK K
              (try simp only [Act.put, List.getElem_toArray, List.getElem_cons_succ, List.getElem_cons_zero, List.setIfInBounds_toArray, List.set_cons_zero, List.set_cons_succ])
              clear x37_0 x37_1 x37_2 x37_3
              refine wpAnyH_ready (rs := [4]) (by kernel_rfl) (by simp) ?_
              refine AllReadyH.cons (o := _) rfl (fun K hK => ?_) AllReadyH.nil
              go_simp
              rw [unhide HKD]
              have hsz := (unhide I35).bbk.1
              refine (l07Put_any o (unhide I35).dr.ok (unhide I35).dr.ri (unhide I35).dr.sp (keyN (24 + i)) ⟨#[118]⟩ ⟨keys_ok ⟨24 + i, by omega⟩, (by decide)⟩ _ kv _ (fun x hx => hx.2) (unhide I35).brs).mono ?_
              rintro e p38 ⟨sa', n', c', rfl, hB', hb'⟩
              have I39 := hide ((unhide I35).bel hb')
              have R40 := hide (LpI.put (unhide I35) hb' (o' := some (mpT o (keyN (24 + i)) ⟨#[118]⟩)) hB' (put_one (unhide I35).dr h40 (by omega) (by decide)) (put_ki (KIO.mono (show 24 + i ≤ 24 + (i + 1) by omega) (unhide I35).ki) (by omega) _))
              clear hB' hb'
              go_wp2_with fail
              refine hK.out _ _ trivial (fun hHeld => ?_)
              clear hK K
              (try simp only [Act.put, List.getElem_toArray, List.getElem_cons_succ, List.getElem_cons_zero, List.setIfInBounds_toArray, List.set_cons_zero, List.set_cons_succ])
              refine wpAnyH_ready (rs := [5]) (by kernel_rfl) (by simp) ?_
              refine AllReadyH.cons (o := _) rfl (fun K hK => ?_) AllReadyH.nil
              have r41_0 := (unhide I39).bbk.cell 0 rfl
              have r41f0 := (unhide I39).bbk.fro 0
              have r41_1 := (unhide I39).bbk.cell 1 rfl
              have r41f1 := (unhide I39).bbk.fro 1
              have r41_2 := (unhide I39).bbk.cell 2 rfl
              have r41f2 := (unhide I39).bbk.fro 2
              have r41_3 := (unhide I39).bbk.cell 3 rfl
              have r41f3 := (unhide I39).bbk.fro 3
              go_simp
              refine hK.out _ _ trivial (fun hHeld => ?_)
              clear hK K
              (try simp only [Act.put, List.getElem_toArray, List.getElem_cons_succ, List.getElem_cons_zero, List.setIfInBounds_toArray, List.set_cons_zero, List.set_cons_succ])
              refine wpAnyH_done (by kernel_rfl) (NoPanic.normal ?_) _
              clear hHeld
              go_wp2_with fail
              refine ⟨⟨i + 1, _, _, by go_num, by omega, ?_, R40⟩, ?_⟩
              · rw [put_more (unhide HI0).dr (unhide HI0).ki (by omega)]; omega
              · simp [intOf]; omega
          · have h40' : ¬ ((lvO o : Nat) : Int) < 40 := by omega
            go_wp2_with fail
            go_meet
            exact ⟨o, kv, _, I5⟩
    case rest =>
      clear I2
      obtain ⟨o, kv, n', HI⟩ := hcut
      have hcn : cntL (brOf o).kids ≤ 1048576 := by
        cases o with
        | none => exact Nat.zero_le _
        | some t => have h1 := tr_cntL t; have h2 : t.lvN ≤ 40 := (unhide HI).dr.sz; show cntL t.toBr.kids ≤ _; omega
      have x0 := (unhide HI).bbk.cell 0 rfl
      have x1 := (unhide HI).bbk.cell 1 rfl
      have x2 := (unhide HI).bbk.cell 2 rfl
      have x3 := (unhide HI).bbk.cell 3 rfl
      go_wp2_with fail
      refine (l07Own_any (unhide HI).brs (brOf o).key (brOf o).val (brOf o).at_ _ hcn (Below.refl _ _)).mono ?_
      rintro e w9 ⟨sa, n, c, rfl, hBO, hb⟩
      have I9 := hide ((unhide HI).bel hb)
      have hsz := (unhide HI).rbk.1
      have hrs := (unhide HI).sz
      have RF := hide (set4_blk (unhide I9).rbk (.string (brOf o).key) (.string (brOf o).val) (.int .i64 (brOf o).at_) (.slice sa n c))
      have TF := set4_touch w9 w.heap.size (.string (brOf o).key) (.string (brOf o).val) (.int .i64 (brOf o).at_) (.slice sa n c)
      have BF := hide (show Brs (fun x => w.heap.size ≤ x) (set4 w9 w.heap.size (.string (brOf o).key) (.string (brOf o).val) (.int .i64 (brOf o).at_) (.slice sa n c)) (.slice sa n c) (brOf o).kids from (hBO.brs.touch TF (fun k hk e => by have := hk.1; omega)).mono (fun k hk => by have := hk.1; omega))
      have TT := hide ((unhide I9).tch.trans TF (fun k hk e => by omega))
      have DD := hide (unhide HI).dr
      have r0 := (unhide I9).rbk.cell 0 rfl
      have r1 := (unhide I9).rbk.cell 1 rfl
      have r2 := (unhide I9).rbk.cell 2 rfl
      have r3 := (unhide I9).rbk.cell 3 rfl
      have f0 := (unhide I9).rbk.fro 0
      have f1 := (unhide I9).rbk.fro 1
      have f2 := (unhide I9).rbk.fro 2
      have f3 := (unhide I9).rbk.fro 3
      clear hBO hb TF HI I9 x0 x1 x2 x3
      go_wp2_with fail
      change bodyPost _ _ _ _ _ (set4 w9 w.heap.size (.string (brOf o).key) (.string (brOf o).val) (.int .i64 (brOf o).at_) (.slice sa n c))
      generalize set4 w9 w.heap.size (.string (brOf o).key) (.string (brOf o).val) (.int .i64 (brOf o).at_) (.slice sa n c) = w10 at *
      have z0 := (unhide RF).cell 0 rfl
      have z1 := (unhide RF).cell 1 rfl
      have z2 := (unhide RF).cell 2 rfl
      have z3 := (unhide RF).cell 3 rfl
      refine bodyPost_ret (v := .agg #[.string (brOf o).key, .string (brOf o).val, .int .i64 (brOf o).at_, .slice sa n c]) (by simp [results, Tryd.results15, go_sem, z0, z1, z2, z3]) rfl ?_
      exact ⟨o, sa, n, c, unhide DD, rfl, unhide BF, unhide TT⟩
end Go.Proofs.YtnajpeaieeaflaaDoor.Sha
namespace Go.Proofs.YtnajpeaieeaflaaDoor.Sha
open Go.ChangeShapes Go.WideShapes Go.ChangeAt Go.RowKit
set_option linter.unusedVariables false
set_option linter.unusedSimpArgs false
set_option maxRecDepth 100000

set_option maxHeartbeats 2000000 in
theorem mapOf_any (a : Option Addr) (cap : Nat) (l : List Int) (w : World) (h : Bytes w (.slice a l.length cap) l) (hl : l.length ≤ 2097152) :
    Calls Tryd.prog 4 #[.slice a l.length cap] w fun e w' => ∃ o sa n c, DrM o ∧ e = .returned (.agg #[.string (brOf o).key, .string (brOf o).val, .int .i64 (brOf o).at_, .slice sa n c]) ∧ Brs (fun _ => True) w' (.slice sa n c) (brOf o).kids ∧ Below w.heap.size w w' := by
  have K0 := hide ((Below.refl w.heap.size w).alloc (Nat.le_refl _) (.cells #[.string ⟨#[]⟩, .string ⟨#[]⟩, .int .i64 0, .slice none 0 0] 25))
  have R0 := hide (Blk.new w #[.string ⟨#[]⟩, .string ⟨#[]⟩, .int .i64 0, .slice none 0 0] 25 w.heap.size rfl)
  have HS := hide (l00Source_any a cap l _ (h.below (unhide K0)) hl)
  clear h
  go_enter Tryd.func4, Tryd.ntmps4
  go_wp2_with fail
  generalize w.alloc (.cells #[.string ⟨#[]⟩, .string ⟨#[]⟩, .int .i64 0, .slice none 0 0] 25) = w0 at *
  refine (unhide HS).mono ?_
  rintro e w1 ⟨rfl, hS, hb⟩
  have hs1 := hS.lt
  have hr0 := (unhide R0).1
  have K1 := hide ((unhide K0).trans (hb.mono (unhide K0).size))
  have R1 := hide ((unhide R0).below hb)
  have HC := hide (drawBranch_any w1 w0.heap.size a cap l 0 hS (by omega))
  clear hS hb HS K0 R0
  go_wp2_with fail
  refine (unhide HC).mono ?_
  rintro e w2 ⟨o, sa, n, c, hD, rfl, hB, hT⟩
  have K2 := hide ((unhide K1).trans (hT.below (Nat.le_trans (Nat.le_of_lt hr0) (Nat.le_of_lt hs1)) (fun k hk e => by (try dsimp only at e); omega)))
  have R2 := hide ((unhide R1).kept hT (by omega))
  have RF := hide (set4_blk (unhide R2) (.string (brOf o).key) (.string (brOf o).val) (.int .i64 (brOf o).at_) (.slice sa n c))
  have TF := set4_touch w2 w.heap.size (.string (brOf o).key) (.string (brOf o).val) (.int .i64 (brOf o).at_) (.slice sa n c)
  have BF := hide (show Brs (fun _ => True) (set4 w2 w.heap.size (.string (brOf o).key) (.string (brOf o).val) (.int .i64 (brOf o).at_) (.slice sa n c)) (.slice sa n c) (brOf o).kids from (hB.touch TF (fun k hk e => by omega)).mono (fun _ _ => trivial))
  have KF := hide ((unhide K2).trans (TF.below (unhide K2).size (fun k hk e => by (try dsimp only at e); omega)))
  have DD := hide hD
  have r0 := (unhide R2).cell 0 rfl
  have r1 := (unhide R2).cell 1 rfl
  have r2 := (unhide R2).cell 2 rfl
  have r3 := (unhide R2).cell 3 rfl
  have f0 := (unhide R2).fro 0
  have f1 := (unhide R2).fro 1
  have f2 := (unhide R2).fro 2
  have f3 := (unhide R2).fro 3
  clear hB hT TF K1 R1 K2 R2 HC hD
  go_wp2_with fail
  change bodyPost _ _ _ _ _ (set4 w2 w.heap.size (.string (brOf o).key) (.string (brOf o).val) (.int .i64 (brOf o).at_) (.slice sa n c))
  generalize set4 w2 w.heap.size (.string (brOf o).key) (.string (brOf o).val) (.int .i64 (brOf o).at_) (.slice sa n c) = w10 at *
  have z0 := (unhide RF).cell 0 rfl
  have z1 := (unhide RF).cell 1 rfl
  have z2 := (unhide RF).cell 2 rfl
  have z3 := (unhide RF).cell 3 rfl
  refine bodyPost_ret (v := .agg #[.string (brOf o).key, .string (brOf o).val, .int .i64 (brOf o).at_, .slice sa n c]) (by simp [results, Tryd.results4, go_sem, z0, z1, z2, z3]) rfl ?_
  exact ⟨o, sa, n, c, unhide DD, rfl, unhide BF, unhide KF⟩
set_option maxHeartbeats 2000000 in
theorem mapKeyOf_any (a : Option Addr) (cap : Nat) (l : List Int) (w : World) (h : Bytes w (.slice a l.length cap) l) (hl : l.length ≤ 2097152) :
    Calls Tryd.prog 5 #[.slice a l.length cap] w fun e w' => ∃ j, j < 24 ∧ e = .returned (.string (keyN j)) ∧ Below w.heap.size w w' := by
  have HS := hide (l00Source_any a cap l w h hl)
  clear h
  go_enter Tryd.func5, Tryd.ntmps5
  go_wp2_with fail
  refine (unhide HS).mono ?_
  rintro e w1 ⟨rfl, hS, hb⟩
  have hs1 := hS.lt
  have KB := hide hb
  have HC := hide (mapKey_any w1 w.heap.size a cap l 0 hS (by omega))
  clear hS hb HS
  go_wp2_with fail
  refine (unhide HC).mono ?_
  rintro e w2 ⟨j, hj, rfl, hS, hT⟩
  have R := hide ((unhide KB).trans (hT.below (Nat.le_of_lt hs1) (fun k hk e => by (try dsimp only at e); omega)))
  clear hS hT HC
  go_wp2_with fail
  go_ret
  exact ⟨j, hj, rfl, unhide R⟩
end Go.Proofs.YtnajpeaieeaflaaDoor.Sha
