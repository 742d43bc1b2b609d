/- Drawn acts: spec.ops, spec.OpsOf: up to 6 right acts, in a slice of the call's own. (Written by py/srcj.py.) -/
import Derived.Test.YtedfidpmehamdaaSrcP
import Derived.Test.YtedfidpmehamdaaHiA
import Derived.Test.YtedfidpmehamdaaAppR
import Derived.Test.YtedfidpmehamdaaTk
import Derived.Deep.RegionHeld3
import Derived.Deep.DeepCutAuto
namespace Go.Proofs.Ytedfidpmehamdaa
open Go.ChangeShapes Go.WideShapes Go.ChangeAt Go.RowKit Go.Deep
set_option linter.unusedVariables false
set_option linter.unusedSimpArgs false

def txL : List ByteArray := [⟨#[]⟩, ⟨#[97]⟩, ⟨#[98]⟩]
theorem tx_size : ∀ i, i < 3 → (txL.getD i ByteArray.empty).size ≤ 1
  | 0, _ => by decide
  | 1, _ => by decide
  | 2, _ => by decide
/-- Acts that were drawn so far. -/
structure RowO (B b : Nat) (w0 : World) (a : Option Addr) (cap : Nat) (l : List Int) (v : Value) (L : List Op) (M : Int) (w : World) : Prop where
  own : OwnOp B w v L
  ok : ∀ i, i < L.length → opB (L.getD i default) = true
  src : Src w b a cap l M
  tch : Touch (fun k => k = b) w0 w
theorem RowO.mono {B b : Nat} {w0 : World} {a : Option Addr} {cap : Nat} {l : List Int} {v : Value} {L : List Op} {M M' : Int} {w : World} (h : RowO B b w0 a cap l v L M w) (hm : M ≤ M') : RowO B b w0 a cap l v L M' w := ⟨h.own, h.ok, h.src.mono hm, h.tch⟩
theorem RowO.drawn {B b : Nat} {w0 : World} {a : Option Addr} {cap : Nat} {l : List Int} {v : Value} {L : List Op} {M M' : Int} {w w' : World} (h : RowO B b w0 a cap l v L M w) (hb : b < B) (hS : Src w' b a cap l M') (ht : Touch (fun k => k = b) w w') : RowO B b w0 a cap l v L M' w' :=
  ⟨h.own.kept ht (fun q hq e => by have := (h.own.lt q hq).1; omega), h.ok, hS, h.tch.trans ht (fun _ _ e => e)⟩
theorem RowO.alloc {B b : Nat} {w0 : World} {a : Option Addr} {cap : Nat} {l : List Int} {v : Value} {L : List Op} {M : Int} {w : World} (h : RowO B b w0 a cap l v L M w) (ob : Obj) : RowO B b w0 a cap l v L M (w.alloc ob) :=
  ⟨h.own.below ((Below.refl _ _).alloc (Nat.le_refl _) _), h.ok, h.src.alloc _, h.tch.alloc _⟩
theorem RowO.box {B b : Nat} {w0 : World} {a : Option Addr} {cap : Nat} {l : List Int} {v : Value} {L : List Op} {M : Int} {w : World} (h : RowO B b w0 a cap l v L M w) (XB j : Nat) (u : Value) (hB : w0.heap.size ≤ XB) (hb : b < w0.heap.size) (hv : ∀ q, v.ownBlock = some q → q ≠ XB) : RowO B b w0 a cap l v L M (w.setCell ⟨XB, j, none⟩ u) :=
  have hT : Touch (fun k => k = XB) w (w.setCell ⟨XB, j, none⟩ u) := (Touch.refl _ w).setCell _ _ (fun _ => rfl)
  ⟨h.own.kept hT (fun q hq e => hv q hq e), h.ok, h.src.grown (OnlyAt.set XB w j u).2 (fun k e => by simp only [Option.some.injEq] at e; omega), h.tch.trans (T' := fun k => k = XB) hT (fun k hk e => by omega)⟩
theorem op_rwJ (w : World) (x y : Int) (q : Bool) (s : ByteArray) (ty B : Nat) (hB : w.heap.size = B) : Rw (w.alloc (.cells #[.int .i64 x, .int .i64 y, .bool q, .string s] ty)) (.slice (some ⟨B, 0, none⟩) 1 1) 1 (opC ⟨x, y, q, s⟩) := by
  subst hB
  refine ⟨_, _, rfl, .inr ⟨_, rfl, fun j u hu => ?_⟩⟩
  have N := Blk.new w #[.int .i64 x, .int .i64 y, .bool q, .string s] ty w.heap.size rfl
  have hadd : (⟨w.heap.size, 0, none⟩ : Addr).add j = ⟨w.heap.size, j, none⟩ := by unfold Addr.add; split <;> simp_all
  rw [hadd]
  exact N.cell j hu
theorem op_pushJ {B : Nat} {w : World} {v : Value} {l : List Op} {f : Op} (h : w.ownsRow B 39 4 v (l.length + 1) (opsC l ++ opC f)) : OwnOp B w v (l ++ [f]) := by
  unfold OwnOp
  rw [opsC_app, List.length_append, show opsC [f] = opC f from rfl]
  exact h
theorem ok_push {L : List Op} {f : Op} (h : ∀ i, i < L.length → opB (L.getD i default) = true) (hf : opB f = true) : ∀ i, i < (L ++ [f]).length → opB ((L ++ [f]).getD i default) = true := fun i hi => by
  rw [List.length_append] at hi
  by_cases e : i < L.length
  · rw [List.getD_eq_getElem?_getD, List.getElem?_append_left e, ← List.getD_eq_getElem?_getD]; exact h i e
  · obtain rfl : i = L.length := by simp at hi; omega
    simp [List.getD_eq_getElem?_getD, hf]
set_option maxRecDepth 100000 in
set_option maxHeartbeats 2000000 in
theorem ops_any (w : World) (b : Nat) (a : Option Addr) (cap : Nat) (l : List Int) (M : Int) (h : Src w b a cap l M) (hM : M ≤ 1000) :
    Calls Try.prog 18 #[.pointer (some ⟨b, 0, none⟩)] w fun e w' => ∃ (v : Value) (L : List Op), e = .returned v ∧ OwnOp w.heap.size w' v L ∧ L.length ≤ 6 ∧ (∀ i, i < L.length → opB (L.getD i default) = true) ∧ Touch (fun k => k = b) w w' := by
  have hbw := h.lt
  obtain ⟨i0, hi, hz0, hz1, hz2⟩ := info_parts infoOp
  have R0 : Hid (RowO w.heap.size b w a cap l (.slice (some ⟨w.heap.size, 0, none⟩) 0 0) [] M (w.alloc (.cells #[] 39))) := hide ⟨World.ownsRow_made w #[] 0 (Nat.le_refl _) (by unfold maxLen; omega) rfl, fun i hi => by simp at hi, h.alloc _, (Touch.refl _ w).alloc _⟩
  clear h
  go_enter Try.func18, Try.ntmps18
  go_wp2_with fail
  generalize w.alloc (.cells #[] 39) = w1 at *
  refine (srcNext_any 7 w1 b a cap l M (unhide R0).src (by omega) (by omega) (by omega)).mono ?_
  rintro e w3 ⟨x0, rfl, hx0, hx7, hS, hO⟩
  have R3 := hide ((unhide R0).drawn hbw hS hO.touch)
  clear hS hO R0
  go_wp2_with fail
  go_loopw [3, 4] (fun v i wr => ∃ (k : Int) (L : List Op), i = .int .i64 k ∧ 0 ≤ k ∧ k ≤ x0 ∧ Hid ((L.length : Int) = x0 - k ∧ RowO w.heap.size b w a cap l v L (M + 3 + 100 * (x0 - k)) wr)) (fun _ i _ => (intOf i).toNat)
  case atStart => exact ⟨x0, [], rfl, hx0, Int.le_refl _, hide ⟨by simp, (unhide R3).mono (by omega)⟩⟩
  case round =>
    obtain ⟨k, L, rfl, hk0, hkx, HR⟩ := hrel
    clear R3
    by_cases hk : 0 < k
    · have m1 : IntKind.i64.wrap (k - 1) = k - 1 := wrapS _ (by omega) (by omega)
      have HLL := hide (unhide HR).1
      have RW := hide (unhide HR).2
      have hLi : L.length ≤ 6 := by have := (unhide HR).1; omega
      obtain ⟨va, vc, hve, _⟩ := (unhide HR).2.own.read
      clear HR
      subst hve
      go_wp2_with fail
      refine (srcNext_any 12 wr b a cap l _ (unhide RW).src (by omega) (by omega) (by omega)).mono ?_
      rintro e w4 ⟨x1, rfl, hx10, hx11, hS, hO⟩
      have R4 := hide ((unhide RW).drawn hbw hS hO.touch)
      clear hS hO RW
      go_wp2_with fail
      refine (chance_any 2 w4 b a cap l _ (unhide R4).src (by omega) (by omega) (by omega)).mono ?_
      rintro e w5 ⟨q1, rfl, hS, hO⟩
      have R5 := hide ((unhide R4).drawn hbw hS hO.touch)
      clear hS hO R4
      have X5 := hide (Blk.new w5 #[.string ⟨#[]⟩, .string ⟨#[97]⟩, .string ⟨#[98]⟩] 9 w5.heap.size rfl)
      have R5a := hide ((unhide R5).alloc (.cells #[.string ⟨#[]⟩, .string ⟨#[97]⟩, .string ⟨#[98]⟩] 9))
      have hc5 : w5.heap.size ≠ b := by have := (unhide R5).src.lt; omega
      go_wp2_with fail
      generalize w5.alloc (.cells #[.string ⟨#[]⟩, .string ⟨#[97]⟩, .string ⟨#[98]⟩] 9) = w6 at *
      refine (pick_any txL w5.heap.size w6 b a cap l _ (unhide R5a).src (by omega) (unhide X5) hc5 (by decide) (by decide)).mono ?_
      rintro e w7 ⟨i1, hi1, rfl, hS, hO⟩
      have R7 := hide ((unhide R5a).drawn hbw hS hO.touch)
      have hs1 := tx_size i1 hi1
      clear hS hO R5a X5 R5 hc5
      generalize txL.getD i1 ByteArray.empty = s1 at *
      have R8 := hide ((unhide R7).alloc (.cells #[.int .i64 x1, .int .i64 0, .bool q1, .string s1] 39))
      have X8 := hide (Blk.new w7 #[.int .i64 x1, .int .i64 0, .bool q1, .string s1] 39 w7.heap.size rfl)
      have hxb : w7.heap.size ≠ b := by have := (unhide R7).src.lt; omega
      have hwx : w.heap.size ≤ w7.heap.size := (unhide R7).tch.size
      have hvX : ∀ q, (Value.slice va L.length vc).ownBlock = some q → q ≠ w7.heap.size := fun q hq => by have := ((unhide R7).own.lt q hq).2; omega
      have a1 : IntKind.i64.wrap (x1 + 1) = x1 + 1 := wrapS _ (by omega) (by omega)
      obtain ⟨XB, hXB⟩ : ∃ XB, XB = w7.heap.size := ⟨_, rfl⟩
      rw [← hXB] at X8 hxb hwx hvX
      have HXB := hide hXB
      clear hXB
      go_wp2_with fail
      rw [← unhide HXB]
      generalize w7.alloc (.cells #[.int .i64 x1, .int .i64 0, .bool q1, .string s1] 39) = w8 at *
      clear R7 HXB
      have x80 := (unhide X8).cell 0 rfl
      have hx8l : XB < w8.heap.size := (unhide X8).1
      have HD := hide (below_drewN (Below.refl w8.heap.size w8) 1)
      change Hid (Below w8.heap.size w8 w8.drew) at HD
      have R9 := hide (show RowO w.heap.size b w a cap l (.slice va L.length vc) L _ w8.drew from ⟨(unhide R8).own.below (unhide HD), (unhide R8).ok, (unhide R8).src.drewN 1, (unhide R8).tch.trans (T' := fun _ => False) (Touch.ofBelow (unhide HD)) (fun _ _ e => e.elim)⟩)
      have X9 := hide ((unhide X8).below (unhide HD))
      refine wp_region_noPanic ?_
      refine wp_region_held_drew (S := (fun wx => wx.cell? ⟨XB, 0, none⟩ = some (.int .i64 x1))) (by kernel_rfl) ?_ (fun hHeld => ?_)
      · exact x80
      obtain ⟨wd, hwd⟩ : ∃ wd, wd = w8.drew := ⟨_, rfl⟩
      rw [← hwd] at R9 X9 hHeld ⊢
      clear hwd HD R8 X8 x80
      refine tkH 0 rfl ?_
      refine tkH 1 rfl ?_
      refine tkH 2 rfl ?_
      refine tkH 3 rfl ?_
      refine wpAnyH_ready (rs := [4]) (by kernel_rfl) (by simp) ?_
      refine AllReadyH.cons (o := _) rfl (fun K hK => ?_) AllReadyH.nil
      go_simp
      refine (srcNext_any 6 wd b a cap l _ (unhide R9).src (by omega) (by omega) (by omega)).mono ?_
      rintro e w10 ⟨y1, rfl, hy10, hy11, hS, hO⟩
      have R10 := hide ((unhide R9).drawn hbw hS hO.touch)
      have X10 := hide ((unhide X9).only hO hxb)
      have a2 : IntKind.i64.wrap (x1 + 1 + y1) = x1 + 1 + y1 := wrapS _ (by omega) (by omega)
      clear hS hO R9 X9
      go_wp2_with fail
      refine hK.out _ _ ?_ (fun hHeld => ?_)
      · exact (unhide X10).cell 0 rfl
      clear hK K
      (try simp only [Act.put, List.getElem_toArray, List.getElem_cons_succ, List.getElem_cons_zero, List.setIfInBounds_toArray, List.set_cons_zero, List.set_cons_succ])
      refine tkH 5 rfl ?_
      refine tkH 6 rfl ?_
      have x101 := (unhide X10).cell 1 rfl
      have fx1 := (unhide X10).fro 1
      have X11 := hide ((unhide X10).set 1 (.int .i64 (x1 + 1 + y1)) (by simp))
      have R11 := hide ((unhide R10).box XB 1 (.int .i64 (x1 + 1 + y1)) hwx hbw hvX)
      refine wpAnyH_ready (rs := [7]) (by kernel_rfl) (by simp) ?_
      refine AllReadyH.cons (o := _) rfl (fun K hK => ?_) AllReadyH.nil
      go_simp
      refine hK.out _ _ ?_ (fun hHeld => ?_)
      · exact (unhide X11).cell 0 rfl
      clear hK K
      (try simp only [Act.put, List.getElem_toArray, List.getElem_cons_succ, List.getElem_cons_zero, List.setIfInBounds_toArray, List.set_cons_zero, List.set_cons_succ])
      refine wpAnyH_done (by kernel_rfl) (NoPanic.normal ?_) _
      generalize w10.setCell ⟨XB, 1, none⟩ (.int .i64 (x1 + 1 + y1)) = w11 at *
      clear x101 fx1 R10 X10 hHeld
      go_wp2_with fail
      refine (chance_any 8 w11 b a cap l _ (unhide R11).src (by omega) (by omega) (by omega)).mono ?_
      rintro e w12 ⟨q8, rfl, hS, hO⟩
      have R12 := hide ((unhide R11).drawn hbw hS hO.touch)
      have X12 := hide ((unhide X11).only hO hxb)
      clear hS hO R11 X11
      cases q8 with
      | true =>
        have y1c := (unhide X12).cell 1 rfl
        have y1f := (unhide X12).fro 1
        have X13 := hide ((unhide X12).set 1 (.int .i64 (-1)) (by simp))
        have R13 := hide ((unhide R12).box XB 1 (.int .i64 (-1)) hwx hbw hvX)
        go_upto_region 9 with fail
        clear y1c y1f X12 R12
        generalize w12.setCell ⟨XB, 1, none⟩ (.int .i64 (-1)) = w13 at *
        have k0 := (unhide X13).cell 0 rfl
        have k1 := (unhide X13).cell 1 rfl
        have k2 := (unhide X13).cell 2 rfl
        have k3 := (unhide X13).cell 3 rfl
        have O4 : Hid ((w13.alloc (.cells #[.int .i64 x1, .int .i64 (-1), .bool q1, .string s1] 39)).ownsRow w.heap.size 39 4 (.slice va L.length vc) L.length (opsC L)) := hide ((unhide R13).alloc _).own
        have HRW := hide (op_rwJ w13 x1 (-1) q1 s1 39 w13.heap.size rfl)
        have H1C : Hid (∀ u ∈ opC ⟨x1, (-1), q1, s1⟩, u.oneCell' = true) := hide (by simp [opC, Value.oneCell'])
        have HBs := hide (show w.heap.size ≤ (w13.alloc (.cells #[.int .i64 x1, .int .i64 (-1), .bool q1, .string s1] 39)).heap.size from ((unhide R13).alloc _).tch.size)
        have hok : opB ⟨x1, (-1), q1, s1⟩ = true := by
          simp only [opB, Bool.and_eq_true, Bool.or_eq_true, decide_eq_true_eq, inB_iff]
          exact ⟨⟨⟨by omega, by omega⟩, .inl (by first | rfl | trivial)⟩, by omega⟩
        have HOK := hide hok
        clear hok
        go_wp2_with (at_builtin; refine wpList_append_row _ rfl _ _ _ rfl w.heap.size 39 i0 _ 4 40 Try.underlying23 hi hz0 hz1 hz2 rfl (by omega) _ L.length (opsC L) rfl (unhide O4) _ 1 (opC ⟨x1, (-1), q1, s1⟩) rfl (unhide HRW) rfl (unhide H1C) (by unfold maxLen; omega) (by omega) (unhide HBs) ?_; intro a6 c6 w6 hown6 hgrow6 hat6; have R6 := hide (And.intro (op_pushJ hown6) hgrow6); clear hown6 hgrow6 hat6)
        obtain ⟨hO6, hg6⟩ := unhide R6
        have hRA := (unhide R13).alloc (.cells #[.int .i64 x1, .int .i64 (-1), .bool q1, .string s1] 39)
        refine ⟨⟨k - 1, L ++ [⟨x1, (-1), q1, s1⟩], rfl, by omega, by omega, hide ⟨by rw [List.length_append]; have := unhide HLL; simp; omega, hO6, ok_push hRA.ok (unhide HOK), (hRA.src.grown hg6 (fun q e => by have := (hRA.own.lt q e).1; omega)).mono (by omega), hRA.tch.trans (T' := fun q => (Value.slice va L.length vc).ownBlock = some q) ((Touch.refl _ _).grown hg6 (fun q hq _ => hq)) (fun q hq e => by have := (hRA.own.lt q e).1; omega)⟩⟩, ?_⟩
        simp [intOf]; omega
      | false =>
        go_upto_region 9 with fail
        have k0 := (unhide X12).cell 0 rfl
        have k1 := (unhide X12).cell 1 rfl
        have k2 := (unhide X12).cell 2 rfl
        have k3 := (unhide X12).cell 3 rfl
        have O4 : Hid ((w12.alloc (.cells #[.int .i64 x1, .int .i64 (x1 + 1 + y1), .bool q1, .string s1] 39)).ownsRow w.heap.size 39 4 (.slice va L.length vc) L.length (opsC L)) := hide ((unhide R12).alloc _).own
        have HRW := hide (op_rwJ w12 x1 (x1 + 1 + y1) q1 s1 39 w12.heap.size rfl)
        have H1C : Hid (∀ u ∈ opC ⟨x1, (x1 + 1 + y1), q1, s1⟩, u.oneCell' = true) := hide (by simp [opC, Value.oneCell'])
        have HBs := hide (show w.heap.size ≤ (w12.alloc (.cells #[.int .i64 x1, .int .i64 (x1 + 1 + y1), .bool q1, .string s1] 39)).heap.size from ((unhide R12).alloc _).tch.size)
        have hok : opB ⟨x1, (x1 + 1 + y1), q1, s1⟩ = true := by
          simp only [opB, Bool.and_eq_true, Bool.or_eq_true, decide_eq_true_eq, inB_iff]
          exact ⟨⟨⟨by omega, by omega⟩, .inr ⟨by omega, by omega⟩⟩, by omega⟩
        have HOK := hide hok
        clear hok
        go_wp2_with (at_builtin; refine wpList_append_row _ rfl _ _ _ rfl w.heap.size 39 i0 _ 4 40 Try.underlying23 hi hz0 hz1 hz2 rfl (by omega) _ L.length (opsC L) rfl (unhide O4) _ 1 (opC ⟨x1, (x1 + 1 + y1), q1, s1⟩) rfl (unhide HRW) rfl (unhide H1C) (by unfold maxLen; omega) (by omega) (unhide HBs) ?_; intro a6 c6 w6 hown6 hgrow6 hat6; have R6 := hide (And.intro (op_pushJ hown6) hgrow6); clear hown6 hgrow6 hat6)
        obtain ⟨hO6, hg6⟩ := unhide R6
        have hRA := (unhide R12).alloc (.cells #[.int .i64 x1, .int .i64 (x1 + 1 + y1), .bool q1, .string s1] 39)
        refine ⟨⟨k - 1, L ++ [⟨x1, (x1 + 1 + y1), q1, s1⟩], rfl, by omega, by omega, hide ⟨by rw [List.length_append]; have := unhide HLL; simp; omega, hO6, ok_push hRA.ok (unhide HOK), (hRA.src.grown hg6 (fun q e => by have := (hRA.own.lt q e).1; omega)).mono (by omega), hRA.tch.trans (T' := fun q => (Value.slice va L.length vc).ownBlock = some q) ((Touch.refl _ _).grown hg6 (fun q hq _ => hq)) (fun q hq e => by have := (hRA.own.lt q e).1; omega)⟩⟩, ?_⟩
        simp [intOf]; omega
    · have hk00 : k = 0 := by omega
      subst hk00
      have HL6 := hide (show L.length ≤ 6 by have := (unhide HR).1; omega)
      have RW := hide (unhide HR).2
      clear HR
      go_wp2_with fail
      go_ret
      exact ⟨_, rfl, L, (unhide RW).own, unhide HL6, (unhide RW).ok, (unhide RW).tch⟩
set_option maxRecDepth 100000 in
set_option maxHeartbeats 1000000 in
theorem opsOf_any (a : Option Addr) (cap : Nat) (l : List Int) (w : World) (h : Bytes w (.slice a l.length cap) l) (hl : l.length ≤ 2097152) :
    Calls Try.prog 5 #[.slice a l.length cap] w fun e w' => ∃ (v : Value) (L : List Op), e = .returned v ∧ OwnOp w.heap.size w' v L ∧ L.length ≤ 6 ∧ opsB L = true ∧ Below w.heap.size w w' := by
  have HS := hide (l00Source_any a cap l w h hl)
  clear h
  go_enter Try.func5, Try.ntmps5
  go_wp2_with fail
  refine (unhide HS).mono ?_
  rintro e w1 ⟨rfl, hS, hb⟩
  have hs1 := hS.lt
  have KB := hide hb
  have HC := hide (ops_any w1 w.heap.size a cap l 0 hS (by omega))
  clear hS hb HS
  go_wp2_with fail
  refine (unhide HC).mono ?_
  rintro e w2 ⟨v, L, rfl, hO, h6, hok, hT⟩
  have R := hide (And.intro (hO.down (Nat.le_of_lt hs1)) (And.intro h6 (And.intro (show opsB L = true from decide_eq_true ⟨by omega, hok⟩) ((unhide KB).trans (hT.below (Nat.le_of_lt hs1) (fun k hk e => by omega))))))
  clear hO h6 hok hT HC
  go_wp2_with fail
  go_ret
  obtain ⟨r1, r2, r3, r4⟩ := unhide R
  exact ⟨_, L, rfl, r1, r2, r3, r4⟩
end Go.Proofs.Ytedfidpmehamdaa
