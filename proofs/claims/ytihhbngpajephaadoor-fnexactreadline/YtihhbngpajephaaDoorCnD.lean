/- A console's line: what it asks for, by its reader. -/
import Derived.Test.YtihhbngpajephaaDoorCnC
namespace Go.Proofs.YtihhbngpajephaaDoor.Sha
open Go.ChangeShapes Go.WideShapes Go.ChangeAt Go.RowKit Go.Maps
set_option linter.unusedVariables false
set_option linter.unusedSimpArgs false

/-- What a line asks for. -/
structure Rq where
  what : ByteArray
  word : ByteArray
  kd : Int
  ss : Int
  sq : Int
  ky : ByteArray
  vl : ByteArray
def rqV (r : Rq) : Value := .agg #[.string r.what, .string r.word, .int .i64 r.kd, .int .i64 r.ss, .int .i64 r.sq, .string r.ky, .string r.vl]
set_option maxRecDepth 100000 in
theorem eqF_no (f : Nat) (w : World) : Sem.run Tryd.prog (binOp BinOp.eql 48 (.func (.func f) #[] #[]) .nilFunc) w = .ok (.bool false) w := by kernel_rfl
set_option maxRecDepth 100000 in
theorem eqF_yes (w : World) : Sem.run Tryd.prog (binOp BinOp.eql 48 .nilFunc .nilFunc) w = .ok (.bool true) w := by kernel_rfl
theorem rdrF_in {l : List UInt8} {f : Nat} (h : rdrF l = (f : Int)) : f = 21 ∨ f = 22 ∨ f = 23 ∨ f = 24 ∨ f = 25 ∨ f = 26 ∨ f = 27 := by
  unfold rdrF at h
  repeat' split at h
  all_goals omega
/-- A reader's answer: what is asked for, or a fault. -/
def RqA (o : Option Rq) (w : World) (e : Ending) (w' : World) : Prop := Below w.heap.size w w' ∧ match o with | some r => e = .returned (rqV r) | none => e = flt 3
theorem RqA.no {o : Option Rq} {w w' : World} {e : Ending} (h : o = none) (he : e = flt 3) (hb : Below w.heap.size w w') : RqA o w e w' := by subst h; exact ⟨hb, he⟩
theorem RqA.yes {o : Option Rq} {w w' : World} {e : Ending} {r : Rq} (h : o = some r) (he : e = .returned (rqV r)) (hb : Below w.heap.size w w') : RqA o w e w' := by subst h; exact ⟨hb, he⟩
theorem Blk.c7 {w : World} {b : Nat} {a0 a1 a2 a3 a4 a5 a6 : Value} (h : Blk w b [a0, a1, a2, a3, a4, a5, a6]) : (w.cell? ⟨b, 0, none⟩ = some a0 ∧ w.cell? ⟨b, 1, none⟩ = some a1 ∧ w.cell? ⟨b, 2, none⟩ = some a2 ∧ w.cell? ⟨b, 3, none⟩ = some a3 ∧ w.cell? ⟨b, 4, none⟩ = some a4 ∧ w.cell? ⟨b, 5, none⟩ = some a5 ∧ w.cell? ⟨b, 6, none⟩ = some a6) ∧ (w.frozen? ⟨b, 0, none⟩ = false ∧ w.frozen? ⟨b, 1, none⟩ = false ∧ w.frozen? ⟨b, 2, none⟩ = false ∧ w.frozen? ⟨b, 3, none⟩ = false ∧ w.frozen? ⟨b, 4, none⟩ = false ∧ w.frozen? ⟨b, 5, none⟩ = false ∧ w.frozen? ⟨b, 6, none⟩ = false) :=
  ⟨⟨h.cell 0 rfl, h.cell 1 rfl, h.cell 2 rfl, h.cell 3 rfl, h.cell 4 rfl, h.cell 5 rfl, h.cell 6 rfl⟩, h.fro 0, h.fro 1, h.fro 2, h.fro 3, h.fro 4, h.fro 5, h.fro 6⟩
/-- A box of seven cells, written. -/
abbrev set7q (w : World) (b : Nat) (x0 x1 x2 x3 x4 x5 x6 : Value) : World := (((((((w.setCell ⟨b, 0, none⟩ x0).setCell ⟨b, 1, none⟩ x1).setCell ⟨b, 2, none⟩ x2).setCell ⟨b, 3, none⟩ x3).setCell ⟨b, 4, none⟩ x4).setCell ⟨b, 5, none⟩ x5).setCell ⟨b, 6, none⟩ x6)
theorem rq_set {w : World} {b : Nat} {a0 a1 a2 a3 a4 a5 a6 : Value} (h : Blk w b [a0, a1, a2, a3, a4, a5, a6]) (w1 w2 : ByteArray) (k s q : Int) (y v : ByteArray) :
    Blk (set7q w b (.string w1) (.string w2) (.int .i64 k) (.int .i64 s) (.int .i64 q) (.string y) (.string v)) b [.string w1, .string w2, .int .i64 k, .int .i64 s, .int .i64 q, .string y, .string v] :=
  (((((((h.set 0 (.string w1) (by simp)).set 1 (.string w2) (by simp)).set 2 (.int .i64 k) (by simp)).set 3 (.int .i64 s) (by simp)).set 4 (.int .i64 q) (by simp)).set 5 (.string y) (by simp)).set 6 (.string v) (by simp))
theorem rq_below {w w3 : World} (hB : Below w.heap.size w w3) (w1 w2 : ByteArray) (k s q : Int) (y v : ByteArray) :
    Below w.heap.size w (set7q w3 w.heap.size (.string w1) (.string w2) (.int .i64 k) (.int .i64 s) (.int .i64 q) (.string y) (.string v)) := by
  have ht := (((((((Touch.refl (fun x => x = w.heap.size) w3).setCell ⟨w.heap.size, 0, none⟩ (.string w1) (fun _ => rfl)).setCell ⟨w.heap.size, 1, none⟩ (.string w2) (fun _ => rfl)).setCell ⟨w.heap.size, 2, none⟩ (.int .i64 k) (fun _ => rfl)).setCell ⟨w.heap.size, 3, none⟩ (.int .i64 s) (fun _ => rfl)).setCell ⟨w.heap.size, 4, none⟩ (.int .i64 q) (fun _ => rfl)).setCell ⟨w.heap.size, 5, none⟩ (.string y) (fun _ => rfl)).setCell ⟨w.heap.size, 6, none⟩ (.string v) (fun _ => rfl)
  exact hB.trans (ht.below hB.size (fun x hx e => by omega))
set_option maxRecDepth 100000 in
set_option maxHeartbeats 4000000 in
theorem request_any (a : Option Addr) (cap : Nat) (l : List ByteArray) (o : Option Rq) (w : World) (h : Strs w (.slice a l.length cap) l) (h0 : (l.getD 0 ByteArray.empty).size ≤ maxLen)
    (hsil : silB l = true → o = none) (hnone : rdrF (l.getD 0 ByteArray.empty).data.toList = -1 → o = none)
    (hrd : silB l = false → ∀ f : Nat, rdrF (l.getD 0 ByteArray.empty).data.toList = (f : Int) → ∀ wx, Below w.heap.size w wx → Calls Tryd.prog f #[.slice a l.length cap] wx fun e w' => RqA o wx e w') :
    Calls Tryd.prog 12 #[.slice a l.length cap] w fun e w' => RqA o w e w' := by
  have hmm := @run_makeMap Tryd.prog
  have HR := hide (fun wx => raise_any 3 wx)
  have HH := hide h
  have HRD := hide hrd
  have HSI := hide hsil
  have HNO := hide hnone
  clear h hrd hsil hnone
  have hB : Below w.heap.size w (w.alloc (.cells #[.string ⟨#[]⟩, .string ⟨#[]⟩, .int .i64 0, .int .i64 0, .int .i64 0, .string ⟨#[]⟩, .string ⟨#[]⟩] 33)) := (Below.refl w.heap.size w).alloc (Nat.le_refl _) _
  have R := hide (Blk.new w #[.string ⟨#[]⟩, .string ⟨#[]⟩, .int .i64 0, .int .i64 0, .int .i64 0, .string ⟨#[]⟩, .string ⟨#[]⟩] 33 w.heap.size rfl)
  go_enter Tryd.func12, Tryd.ntmps12
  go_upto_region 1 with fail
  generalize w.alloc (.cells #[.string ⟨#[]⟩, .string ⟨#[]⟩, .int .i64 0, .int .i64 0, .int .i64 0, .string ⟨#[]⟩, .string ⟨#[]⟩] 33) = w0 at *
  have hB1 := hB.alloc hB.size (.map #[] 0)
  have hR1 := (unhide R).alloc (.map #[] 0)
  have hMl := (unhide R).1
  obtain ⟨w1, w2, w3, w4, w5, w6, w7, w8, w9, wr, r1, r2, r3, r4, r5, r6, r7, r8, r9, r10, hown, ht⟩ := rdr_lit w0
  have HB := hide (hB1.trans (ht.below hB1.size (fun q hq e => by have := Option.some.inj e; omega)))
  have HX := hide (hR1.kept ht (fun e => by have := Option.some.inj e; omega))
  clear hB R hB1 hR1 ht
  go_upto_region 2 with fail
  clear r1 r2 r3 r4 r5 r6 r7 r8 r9 r10 hmm w1 w2 w3 w4 w5 w6 w7 w8 w9
  have HC := hide (silent_any a cap l wr ((unhide HH).below (unhide HB)) h0)
  go_wp2_with fail
  refine (unhide HC).mono ?_
  rintro e w2 ⟨rfl, hw⟩
  subst w2
  clear HC
  cases hs : silB l with
  | true =>
    have E := hide (unhide HSI hs)
    clear HSI HNO HRD hown
    go_wp2_with fail
    refine (unhide HR _).mono ?_
    rintro e w9 ⟨rfl, hw9⟩
    subst w9
    unfold flt
    go_wp2_with fail
    exact ⟨rfl, RqA.no (unhide E) rfl (unhide HB)⟩
  | false =>
    have HRF := hide (unhide HRD hs)
    have hne : ¬ l.length = 0 := by
      intro e0
      unfold silB at hs
      rw [if_pos e0] at hs
      cases hs
    obtain ⟨a2, c2, e, hm, hc⟩ := (unhide HH).below (unhide HB)
    simp only [Value.slice.injEq] at e
    obtain ⟨rfl, _, rfl⟩ := e
    rcases hc with hc | ⟨b, off, rfl, hb, hc⟩
    · exact absurd hc hne
    have c0 := hc 0 (by omega)
    rw [Nat.add_zero] at c0
    have hl0 : (0 : Int) < (l.length : Int) := by omega
    unfold maxLen at hm
    clear hc HSI HRD
    generalize l.getD 0 ByteArray.empty = s at *
    obtain ⟨v, ps, hrun, hv⟩ := hown.lookup strKey Tryd.underlying49 (zeroF wr) (zd := .lit (.int .i64 (-1))) (zp := []) rfl (Go.WideMaps.keyOf_string_mk Tryd.underlying9 (s := s) h0)
    have hv2 := fR_inv hv (rdr_at s.data.toList)
    clear hv hown
    rcases hv2 with ⟨f, rfl, hf⟩ | ⟨rfl, hf⟩
    · have HCC := hide (unhide HRF f hf wr (unhide HB))
      have hin := rdrF_in hf
      clear HRF HNO HR hf
      have heq := eqF_no f wr
      go_upto_region 4 with fail
      rcases hin with rfl | rfl | rfl | rfl | rfl | rfl | rfl
      all_goals
        go_wp2_with fail
        refine (unhide HCC).mono ?_
        rintro e w3 ⟨hb3, he⟩
        have B3 := hide ((unhide HB).trans (hb3.mono (unhide HB).size))
        have X3 := hide ((unhide HX).below hb3)
        clear HB HX HCC hb3
        cases o with
        | none =>
          dsimp only at he
          subst he
          unfold flt
          go_wp2_with fail
          exact ⟨rfl, RqA.no rfl rfl (unhide B3)⟩
        | some r =>
          dsimp only at he
          subst he
          obtain ⟨rw1, rw2, rk, rs, rq, ry, rv⟩ := r
          dsimp only [rqV]
          have HY := hide (rq_set (unhide X3) rw1 rw2 rk rs rq ry rv)
          have HK := hide (rq_below (unhide B3) rw1 rw2 rk rs rq ry rv)
          obtain ⟨⟨x0, x1, x2, x3, x4, x5, x6⟩, g0, g1, g2, g3, g4, g5, g6⟩ := Blk.c7 (unhide X3)
          clear X3 B3
          go_wp2_with fail
          obtain ⟨⟨z0, z1, z2, z3, z4, z5, z6⟩, _⟩ := Blk.c7 (unhide HY)
          refine bodyPost_ret (v := rqV ⟨rw1, rw2, rk, rs, rq, ry, rv⟩) (by simp [results, rqV, Tryd.results12, go_sem, z0, z1, z2, z3, z4, z5, z6]) rfl ?_
          exact RqA.yes rfl rfl (unhide HK)
    · have E := hide (unhide HNO hf)
      clear HRF HNO hf
      have heq := eqF_yes wr
      go_wp2_with fail
      refine (unhide HR _).mono ?_
      rintro e w9 ⟨rfl, hw9⟩
      subst w9
      unfold flt
      go_wp2_with fail
      exact ⟨rfl, RqA.no (unhide E) rfl (unhide HB)⟩
end Go.Proofs.YtihhbngpajephaaDoor.Sha
