/- For every two states that can be read, laws.FnExactStateRecords returns true, and the states read as they did. No condition. (Written by py/lsr.py.) -/
import Derived.Test.YtafbdjcoimopfaaRecQ
import Derived.Test.YtafbdjcoimopfaaStM
import Derived.Test.YtafbdjcoimopfaaStr
import Derived.Test.YtafbdjcoimopfaaOpenS
import Derived.Deep.DeepCutAuto
namespace Go.Proofs.Ytafbdjcoimopfaa.fnExactStateRecords
open Go.ChangeShapes Go.WideShapes Go.ChangeAt Go.RowKit
open Go.ChangeMaps (open_string shut_string)
set_option linter.unusedVariables false
set_option linter.unusedSimpArgs false

/-- What is carried on: all that was there, both arguments, their boxes. -/
structure Two (w : World) (tm vo : Int) (u : Value) (x : List En) (tm2 vo2 : Int) (v : Value) (y : List En) (wx : World) : Prop where
  b : Below w.heap.size w wx
  a1 : Ens wx u x
  a2 : Ens wx v y
  x1 : Blk wx w.heap.size [.int .i64 tm, .int .i64 vo, u]
  x2 : Blk wx (w.heap.size + 1) [.int .i64 tm2, .int .i64 vo2, v]
theorem Two.below {w : World} {tm vo : Int} {u : Value} {x : List En} {tm2 vo2 : Int} {v : Value} {y : List En} {wx wy : World} (h : Two w tm vo u x tm2 vo2 v y wx) (hb : Below wx.heap.size wx wy) : Two w tm vo u x tm2 vo2 v y wy :=
  ⟨h.b.trans (hb.mono h.b.size), h.a1.below hb, h.a2.below hb, h.x1.below hb, h.x2.below hb⟩

theorem out_len {tm vo tm2 vo2 : Int} {x y : List En} : (srOut (stateB tm vo x && stateB tm2 vo2 y) (recsP tm vo x tm2 vo2 y)).1.length ≤ 62 := by
  unfold srOut
  split
  · rename_i h
    simp only [Bool.and_eq_true] at h
    rw [List.length_map]
    exact recs_len (state_nums h.2).2.2.2.2
  · simp
/-- Where what is carried lies: the boxes of the arguments, what the specification told, the copies and their boxes, what the program told. -/
structure Lie (N gA ya gB yb G : Nat) (wv gv : Value) : Prop where
  a1 : N + 1 < gA
  a2 : gA < ya
  a3 : ya < gB
  a4 : gB < yb
  a5 : yb < G
  a6 : ∀ k, wv.ownBlock = some k → N + 1 < k ∧ k < gA
  a7 : ∀ k, gv.ownBlock = some k → G ≤ k
/-- What is carried on behind the program's answer. -/
structure Kr (w : World) (tm vo : Int) (u : Value) (x : List En) (tm2 vo2 : Int) (v : Value) (y : List En) (gA ya gB yb G : Nat) (wv gv : Value) (T : List ByteArray) (xl yl : List En) (gl : List ByteArray) (wx : World) : Prop where
  t : Two w tm vo u x tm2 vo2 v y wx
  y1 : Blk wx ya [.int .i64 tm, .int .i64 vo, .slice (some ⟨gA, 0, none⟩) x.length x.length]
  y2 : Blk wx yb [.int .i64 tm2, .int .i64 vo2, .slice (some ⟨gB, 0, none⟩) y.length y.length]
  ox : OwnE (w.heap.size + 2) wx (.slice (some ⟨gA, 0, none⟩) x.length x.length) xl
  oy : OwnE (w.heap.size + 2) wx (.slice (some ⟨gB, 0, none⟩) y.length y.length) yl
  ow : OwnS (w.heap.size + 2) wx wv T
  og : OwnS (w.heap.size + 2) wx gv gl
variable {w : World} {tm vo : Int} {u : Value} {x : List En} {tm2 vo2 : Int} {v : Value} {y : List En} {gA ya gB yb G : Nat} {wv gv : Value} {T : List ByteArray} {xl yl : List En} {gl : List ByteArray} {wx wy : World}
theorem Kr.below (h : Kr w tm vo u x tm2 vo2 v y gA ya gB yb G wv gv T xl yl gl wx) (hb : Below wx.heap.size wx wy) : Kr w tm vo u x tm2 vo2 v y gA ya gB yb G wv gv T xl yl gl wy :=
  ⟨h.t.below hb, h.y1.below hb, h.y2.below hb, h.ox.below hb, h.oy.below hb, h.ow.below hb, h.og.below hb⟩
theorem Two.kept {P : Nat → Prop} (h : Two w tm vo u x tm2 vo2 v y wx) (hT : Touch P wx wy) (hf : Ens w u x) (hf2 : Ens w v y) (hP : ∀ k, P k → w.heap.size + 1 < k) : Two w tm vo u x tm2 vo2 v y wy := by
  have hb : Below w.heap.size w wy := h.b.trans (hT.below h.b.size (fun k hk e => by have := hP k e; omega))
  exact ⟨hb, hf.below hb, hf2.below hb, h.x1.kept hT (fun e => by have := hP _ e; omega), h.x2.kept hT (fun e => by have := hP _ e; omega)⟩
theorem Kr.markX (h : Kr w tm vo u x tm2 vo2 v y gA ya gB yb G wv gv T xl yl gl wx) (hl : Lie w.heap.size gA ya gB yb G wv gv) (hf : Ens w u x) (hf2 : Ens w v y) {m : List En} (hO : OwnE (w.heap.size + 2) wy (.slice (some ⟨gA, 0, none⟩) x.length x.length) m) (hT : Touch (fun k => (Value.slice (some ⟨gA, 0, none⟩) x.length x.length).ownBlock = some k) wx wy) : Kr w tm vo u x tm2 vo2 v y gA ya gB yb G wv gv T m yl gl wy := by
  obtain ⟨a1, a2, a3, a4, a5, a6, a7⟩ := hl
  have e : ∀ k, (Value.slice (some ⟨gA, 0, none⟩) x.length x.length).ownBlock = some k → k = gA := fun k h => by simp [Value.ownBlock] at h; omega
  have e2 : ∀ k, (Value.slice (some ⟨gB, 0, none⟩) y.length y.length).ownBlock = some k → k = gB := fun k h => by simp [Value.ownBlock] at h; omega
  exact ⟨h.t.kept hT hf hf2 (fun k hk => by have := e k hk; omega), h.y1.kept hT (fun q => by have := e _ q; omega), h.y2.kept hT (fun q => by have := e _ q; omega), hO, h.oy.kept hT (fun k h1 h2 => by have := e k h2; have := e2 k h1; omega), h.ow.kept hT (fun k h1 h2 => by have := e k h2; have := a6 k h1; omega), h.og.kept hT (fun k h1 h2 => by have := e k h2; have := a7 k h1; omega)⟩
theorem Kr.markY (h : Kr w tm vo u x tm2 vo2 v y gA ya gB yb G wv gv T xl yl gl wx) (hl : Lie w.heap.size gA ya gB yb G wv gv) (hf : Ens w u x) (hf2 : Ens w v y) {m : List En} (hO : OwnE (w.heap.size + 2) wy (.slice (some ⟨gB, 0, none⟩) y.length y.length) m) (hT : Touch (fun k => (Value.slice (some ⟨gB, 0, none⟩) y.length y.length).ownBlock = some k) wx wy) : Kr w tm vo u x tm2 vo2 v y gA ya gB yb G wv gv T xl m gl wy := by
  obtain ⟨a1, a2, a3, a4, a5, a6, a7⟩ := hl
  have e2 : ∀ k, (Value.slice (some ⟨gA, 0, none⟩) x.length x.length).ownBlock = some k → k = gA := fun k h => by simp [Value.ownBlock] at h; omega
  have e : ∀ k, (Value.slice (some ⟨gB, 0, none⟩) y.length y.length).ownBlock = some k → k = gB := fun k h => by simp [Value.ownBlock] at h; omega
  exact ⟨h.t.kept hT hf hf2 (fun k hk => by have := e k hk; omega), h.y1.kept hT (fun q => by have := e _ q; omega), h.y2.kept hT (fun q => by have := e _ q; omega), h.ox.kept hT (fun k h1 h2 => by have := e k h2; have := e2 k h1; omega), hO, h.ow.kept hT (fun k h1 h2 => by have := e k h2; have := a6 k h1; omega), h.og.kept hT (fun k h1 h2 => by have := e k h2; have := a7 k h1; omega)⟩
theorem Kr.markG (h : Kr w tm vo u x tm2 vo2 v y gA ya gB yb G wv gv T xl yl gl wx) (hl : Lie w.heap.size gA ya gB yb G wv gv) (hf : Ens w u x) (hf2 : Ens w v y) {m : List ByteArray} (hO : OwnS (w.heap.size + 2) wy gv m) (hT : Touch (fun k => gv.ownBlock = some k) wx wy) : Kr w tm vo u x tm2 vo2 v y gA ya gB yb G wv gv T xl yl m wy := by
  obtain ⟨a1, a2, a3, a4, a5, a6, a7⟩ := hl
  have e2 : ∀ k, (Value.slice (some ⟨gA, 0, none⟩) x.length x.length).ownBlock = some k → k = gA := fun k h => by simp [Value.ownBlock] at h; omega
  have e : ∀ k, (Value.slice (some ⟨gB, 0, none⟩) y.length y.length).ownBlock = some k → k = gB := fun k h => by simp [Value.ownBlock] at h; omega
  exact ⟨h.t.kept hT hf hf2 (fun k hk => by have := a7 k hk; omega), h.y1.kept hT (fun q => by have := a7 _ q; omega), h.y2.kept hT (fun q => by have := a7 _ q; omega), h.ox.kept hT (fun k h1 h2 => by have := a7 k h2; have := e2 k h1; omega), h.oy.kept hT (fun k h1 h2 => by have := a7 k h2; have := e k h1; omega), h.ow.kept hT (fun k h1 h2 => by have := a7 k h2; have := a6 k h1; omega), hO⟩
set_option maxRecDepth 100000 in
set_option maxHeartbeats 4000000 in
theorem walk (tm vo : Int) (u : Value) (x : List En) (tm2 vo2 : Int) (v : Value) (y : List En) (w : World) (hf : Ens w u x) (hz : ∀ i, i < x.length → (x.getD i default).d.size ≤ maxLen) (hf2 : Ens w v y) (hz2 : ∀ i, i < y.length → (y.getD i default).d.size ≤ maxLen) :
    Calls Try.prog 7 #[.agg #[.int .i64 tm, .int .i64 vo, u], .agg #[.int .i64 tm2, .int .i64 vo2, v]] w fun e w' => e = .returned (.bool true) ∧ Below w.heap.size w w' := by
  have HF := hide hf
  have HF2 := hide hf2
  have HZ := hide hz
  have HZ2 := hide hz2
  have H0 : Hid (Two w tm vo u x tm2 vo2 v y ((w.alloc (.cells #[.int .i64 tm, .int .i64 vo, u] 57)).alloc (.cells #[.int .i64 tm2, .int .i64 vo2, v] 57))) := by
    have BB := ((Below.refl w.heap.size w).alloc (Nat.le_refl _) (.cells #[.int .i64 tm, .int .i64 vo, u] 57)).alloc (by simp) (.cells #[.int .i64 tm2, .int .i64 vo2, v] 57)
    exact hide ⟨BB, hf.below BB, hf2.below BB, (Blk.new w _ 57 w.heap.size rfl).alloc _, Blk.new _ #[.int .i64 tm2, .int .i64 vo2, v] 57 (w.heap.size + 1) (by simp)⟩
  obtain ⟨a, cap, rfl, hn, hm, hc⟩ := hf
  obtain ⟨a2, cap2, rfl, hn2, hm2, hc2⟩ := hf2
  clear hc hm hn hz hc2 hm2 hn2 hz2
  go_enter Try.func7, Try.ntmps7
  go_wp2_with fail
  generalize (w.alloc (.cells #[.int .i64 tm, .int .i64 vo, .slice a x.length cap] 57)).alloc (.cells #[.int .i64 tm2, .int .i64 vo2, .slice a2 y.length cap2] 57) = w0 at *
  refine (szState_any 1048576 (by omega) (by omega) tm vo _ x w0 (unhide H0).a1 (unhide HZ)).mono ?_
  rintro e w1 ⟨rfl, hb1⟩
  have H1 := hide ((unhide H0).below hb1)
  clear hb1 H0
  have hsm := hide (esmall_of 1048576 (by omega) x)
  rcases eszR_cases 1048576 x with hr | ⟨hr, hrl⟩
  · rw [hr]
    go_wp2_with fail
    go_ret
    exact ⟨rfl, (unhide H1).b⟩
  have HSX := hide (unhide hsm hr)
  clear hsm
  generalize eszR 1048576 x = L at *
  have b0 := (unhide H1).x2.cell 0 rfl
  have b1 := (unhide H1).x2.cell 1 rfl
  have b2 := (unhide H1).x2.cell 2 rfl
  go_wp2_with fail
  clear b0 b1 b2
  refine (szState_any L hr hrl tm2 vo2 _ y w1 (unhide H1).a2 (unhide HZ2)).mono ?_
  rintro e w2 ⟨rfl, hb2⟩
  have H2 := hide ((unhide H1).below hb2)
  have hsm := hide (esmall_of L hrl y)
  clear hb2 H1
  rcases eszR_cases L y with hr2 | ⟨hr2, hrl2⟩
  · rw [hr2]
    go_wp2_with fail
    go_ret
    exact ⟨rfl, (unhide H2).b⟩
  have HSY := hide (unhide hsm hr2)
  clear hsm
  generalize eszR L y = M at *
  go_wp2_with fail
  have HLen := hide (out_len (tm := tm) (vo := vo) (tm2 := tm2) (vo2 := vo2) (x := x) (y := y))
  have HSP := hide (fun (wx : World) (u1 u2 : Option Addr) (k1 k2 : Nat) h1 h2 => specStateRecords_any tm vo tm2 vo2 u1 u2 k1 k2 x y wx h1 h2 (unhide HSX).2 (unhide HSY).2)
  have HIM := hide (fun (wx : World) (u1 u2 : Option Addr) (k1 k2 : Nat) h1 h2 => implStateRecords_any tm vo tm2 vo2 u1 u2 k1 k2 x y wx h1 h2 (unhide HSX).2 (unhide HSY).2)
  obtain ⟨out, hout⟩ : ∃ out, out = srOut (stateB tm vo x && stateB tm2 vo2 y) (recsP tm vo x tm2 vo2 y) := ⟨_, rfl⟩
  rw [← hout] at HLen HSP HIM
  clear hout
  obtain ⟨T, cd⟩ := out
  dsimp only at HLen HSP HIM
  have hTl : T.length ≤ 1048576 := by have := unhide HLen; omega
  have hcc : (cd == cd) = true := by simp
  have hcn : (cd != cd) = false := by simp
  clear HLen
  go_upto_region 8 with fail
  go_cut [6, 7] (fun s6 s7 wx => ∃ wv, s6 = wv ∧ s7 = .int .i64 cd ∧ Two w tm vo (.slice a x.length cap) x tm2 vo2 (.slice a2 y.length cap2) y wx ∧ OwnS (w.heap.size + 2) wx wv T)
  case first =>
    have hT := (unhide H2).below (below_drewN (Below.refl _ w2) 1)
    clear H2
    go_region_held3 (fun wx => wx.cell? ⟨w.heap.size, 0, none⟩ = some (.int .i64 tm) ∧ wx.cell? ⟨w.heap.size, 1, none⟩ = some (.int .i64 vo) ∧ wx.cell? ⟨w.heap.size, 2, none⟩ = some (.slice a x.length cap) ∧ wx.cell? ⟨w.heap.size + 1, 0, none⟩ = some (.int .i64 tm2) ∧ wx.cell? ⟨w.heap.size + 1, 1, none⟩ = some (.int .i64 vo2) ∧ wx.cell? ⟨w.heap.size + 1, 2, none⟩ = some (.slice a2 y.length cap2))
      (exact ⟨hT.x1.cell 0 rfl, hT.x1.cell 1 rfl, hT.x1.cell 2 rfl, hT.x2.cell 0 rfl, hT.x2.cell 1 rfl, hT.x2.cell 2 rfl⟩)
      (first
        | (go_at_call 30; refine (unhide HSP _ _ _ _ _ hOA.ens hOB.ens).mono ?_; rintro e wz ⟨wv, rfl, hOw, hbz⟩; have hOw2 : OwnS (w.heap.size + 2) wz wv T := World.ownsRow.mono hOw hT.x2.1; have hT2 := hT.below hbz; clear hT; have hT := hT2; clear hT2)
        | (go_at_call_of 31 (Value.agg #[.int .i64 tm, .int .i64 vo, .slice a x.length cap]); refine (toState_any tm vo (.slice a x.length cap) x _ hT.a1 (unhide HSX).1).mono ?_; rintro e wA ⟨gA, rfl, hOA, hbA⟩; have hT2 := hT.below hbA; clear hT; have hT := hT2; clear hT2; try (have hOB2 := hOB.below hbA; clear hOB; have hOB := hOB2; clear hOB2))
        | (go_at_call 31; refine (toState_any tm2 vo2 (.slice a2 y.length cap2) y _ hT.a2 (unhide HSY).1).mono ?_; rintro e wB ⟨gB, rfl, hOB, hbB⟩; have hT2 := hT.below hbB; clear hT; have hT := hT2; clear hT2; try (have hOA2 := hOA.below hbB; clear hOA; have hOA := hOA2; clear hOA2)))
    all_goals
      go_wp2_with fail
      go_meet
      exact ⟨_, rfl, rfl, hT, hOw2⟩
  case rest =>
    obtain ⟨wv, hwv, rfl, hT, hOw⟩ := hcut
    have hwv2 := hwv.symm
    clear hwv
    subst hwv2
    obtain ⟨w3, hw3⟩ : ∃ w3, w3 = wc := ⟨_, rfl⟩
    subst hw3
    have H3 := hide hT
    have W3 := hide hOw
    have hlw := fun k hk => OwnS.lt hOw k hk
    have hLW := hide hlw
    have hn3 := hT.x2.1
    clear hT hOw hlw H2 HSP
    have b0 := (unhide H3).x1.cell 0 rfl
    have b1 := (unhide H3).x1.cell 1 rfl
    have b2 := (unhide H3).x1.cell 2 rfl
    go_wp2_with fail
    clear b0 b1 b2
    refine (toState_any tm vo _ x _ (unhide H3).a1 (unhide HSX).1).mono ?_
    rintro e w4 ⟨gA, rfl, hOA, hbA⟩
    have hgA := World.ownsRow.lt hOA gA rfl
    have BA := (Below.refl w4.heap.size w4).alloc (Nat.le_refl _) (.cells #[.int .i64 tm, .int .i64 vo, .slice (some ⟨gA, 0, none⟩) x.length x.length] 63)
    have H4 := hide (((unhide H3).below hbA).below BA)
    have O4 := hide (hOA.below BA)
    have W4 := hide (((unhide W3).below hbA).below BA)
    have Y4 := hide (Blk.new w4 #[.int .i64 tm, .int .i64 vo, .slice (some ⟨gA, 0, none⟩) x.length x.length] 63 w4.heap.size rfl)
    have hy4 : w4.heap.size < (w4.alloc (.cells #[.int .i64 tm, .int .i64 vo, .slice (some ⟨gA, 0, none⟩) x.length x.length] 63)).heap.size := (unhide Y4).1
    have b0 := (unhide H4).x2.cell 0 rfl
    have b1 := (unhide H4).x2.cell 1 rfl
    have b2 := (unhide H4).x2.cell 2 rfl
    clear hOA hbA BA H3 W3
    go_wp2_with fail
    clear b0 b1 b2
    generalize w4.alloc (.cells #[.int .i64 tm, .int .i64 vo, .slice (some ⟨gA, 0, none⟩) x.length x.length] 63) = w4b at *
    generalize w4.heap.size = ya at *
    refine (toState_any tm2 vo2 _ y _ (unhide H4).a2 (unhide HSY).1).mono ?_
    rintro e w5 ⟨gB, rfl, hOB, hbB⟩
    have hgB := World.ownsRow.lt hOB gB rfl
    have BB := (Below.refl w5.heap.size w5).alloc (Nat.le_refl _) (.cells #[.int .i64 tm2, .int .i64 vo2, .slice (some ⟨gB, 0, none⟩) y.length y.length] 63)
    have H5 := hide (((unhide H4).below hbB).below BB)
    have O5 := hide (((unhide O4).below hbB).below BB)
    have P5 := hide (hOB.below BB)
    have W5 := hide (((unhide W4).below hbB).below BB)
    have Y5 := hide (((unhide Y4).below hbB).below BB)
    have Z5 := hide (Blk.new w5 #[.int .i64 tm2, .int .i64 vo2, .slice (some ⟨gB, 0, none⟩) y.length y.length] 63 w5.heap.size rfl)
    have hz5 : w5.heap.size < (w5.alloc (.cells #[.int .i64 tm2, .int .i64 vo2, .slice (some ⟨gB, 0, none⟩) y.length y.length] 63)).heap.size := (unhide Z5).1
    have c0 := (unhide Y5).cell 0 rfl
    have c1 := (unhide Y5).cell 1 rfl
    have c2 := (unhide Y5).cell 2 rfl
    clear hOB hbB BB H4 O4 W4 Y4
    go_wp2_with fail
    clear c0 c1 c2
    generalize w5.alloc (.cells #[.int .i64 tm2, .int .i64 vo2, .slice (some ⟨gB, 0, none⟩) y.length y.length] 63) = w5b at *
    generalize w5.heap.size = yb at *
    refine (unhide HIM w5b _ _ _ _ (unhide O5).ens (unhide P5).ens).mono ?_
    rintro e w6 ⟨gv, rfl, hOg, hb6⟩
    have hLG := fun k hk => OwnS.lt hOg k hk
    obtain ⟨G, hG⟩ : ∃ G, G = w5b.heap.size := ⟨_, rfl⟩
    have HL : Hid (Lie w.heap.size gA ya gB yb G wv gv) := hide ⟨by omega, by omega, by omega, by omega, by omega, fun k hk => by have := unhide hLW k hk; omega, fun k hk => by have := hLG k hk; omega⟩
    have K6 : Hid (Kr w tm vo (.slice a x.length cap) x tm2 vo2 (.slice a2 y.length cap2) y gA ya gB yb G wv gv T x y T w6) := hide ⟨(unhide H5).below hb6, (unhide Y5).below hb6, (unhide Z5).below hb6, World.ownsRow.mono ((unhide O5).below hb6) (by omega), World.ownsRow.mono ((unhide P5).below hb6) (by omega), (unhide W5).below hb6, World.ownsRow.mono hOg (by omega)⟩
    clear hb6 hOg hLG hLW H5 O5 P5 W5 Y5 Z5 hgA hgB hy4 hz5 hG hn3
    go_wp2_with fail
    refine (eqStringS_any _ _ T w6 (unhide K6).og.strs (unhide K6).ow.strs hTl).mono ?_
    rintro e w7 ⟨rfl, n, hw7⟩
    have K7 := hide ((unhide K6).below (below_drewN (Below.refl _ w6) n))
    rw [← hw7] at K7
    clear hw7 K6
    go_upto_region 14 with fail
    have hKd := (unhide K7).below (below_drewN (Below.refl _ _) 1)
    change Kr _ _ _ _ _ _ _ _ _ _ _ _ _ _ _ _ _ _ _ _ (World.drew _) at hKd
    refine wp_region_noPanic ?_
    refine wp_region_held_drew (S := (fun wx => wx.cell? ⟨w.heap.size, 0, none⟩ = some (.int .i64 tm) ∧ wx.cell? ⟨w.heap.size, 1, none⟩ = some (.int .i64 vo) ∧ wx.cell? ⟨w.heap.size, 2, none⟩ = some (.slice a x.length cap) ∧ wx.cell? ⟨ya, 0, none⟩ = some (.int .i64 tm) ∧ wx.cell? ⟨ya, 1, none⟩ = some (.int .i64 vo) ∧ wx.cell? ⟨ya, 2, none⟩ = some (.slice (some ⟨gA, 0, none⟩) x.length x.length))) (by kernel_rfl) ?_ (fun hHeld => ?_)
    · exact ⟨hKd.t.x1.cell 0 rfl, hKd.t.x1.cell 1 rfl, hKd.t.x1.cell 2 rfl, hKd.y1.cell 0 rfl, hKd.y1.cell 1 rfl, hKd.y1.cell 2 rfl⟩
    refine wpAnyH_take (i := 0) (oi := _) (v := ?_) rfl (by kernel_rfl) (by kernel_rfl) (by kernel_rfl) (fun _ _ _ h => h) (Or.inl ⟨by rfl, ?_⟩) (by assumption) ?_
    rotate_left 1
    · (intro wq hSw; (try dsimp only at hSw); (try simp only [List.getElem_toArray, List.getElem_cons_succ, List.getElem_cons_zero]); go_simp; try with_reducible rfl)
    (try simp only [Act.put, List.getElem_toArray, List.getElem_cons_succ, List.getElem_cons_zero, List.setIfInBounds_toArray, List.set_cons_zero, List.set_cons_succ])
    refine wpAnyH_take (i := 1) (oi := _) (v := ?_) rfl (by kernel_rfl) (by kernel_rfl) (by kernel_rfl) (fun _ _ _ h => h) (Or.inl ⟨by rfl, ?_⟩) (by assumption) ?_
    rotate_left 1
    · (intro wq hSw; (try dsimp only at hSw); (try simp only [List.getElem_toArray, List.getElem_cons_succ, List.getElem_cons_zero]); go_simp; try with_reducible rfl)
    (try simp only [Act.put, List.getElem_toArray, List.getElem_cons_succ, List.getElem_cons_zero, List.setIfInBounds_toArray, List.set_cons_zero, List.set_cons_succ])
    refine wpAnyH_ready (rs := [2]) (by kernel_rfl) (by simp) ?_
    refine AllReadyH.cons (o := _) rfl (fun K hK => ?_) AllReadyH.nil
    go_simp
    refine (toState_any tm vo (.slice a x.length cap) x _ hKd.t.a1 (unhide HSX).1).mono ?_
    rintro e wA8 ⟨gC8, rfl, hOA, hbA⟩
    have hKe := hKd.below hbA
    clear hKd hbA
    go_wp2_with fail
    refine hK.out _ _ ?_ (fun hHeld => ?_)
    · exact ⟨hKe.t.x1.cell 0 rfl, hKe.t.x1.cell 1 rfl, hKe.t.x1.cell 2 rfl, hKe.y1.cell 0 rfl, hKe.y1.cell 1 rfl, hKe.y1.cell 2 rfl⟩
    clear hK K
    (try simp only [Act.put, List.getElem_toArray, List.getElem_cons_succ, List.getElem_cons_zero, List.setIfInBounds_toArray, List.set_cons_zero, List.set_cons_succ])
    refine wpAnyH_ready (rs := [3]) (by kernel_rfl) (by simp) ?_
    refine AllReadyH.cons (o := _) rfl (fun K hK => ?_) AllReadyH.nil
    go_simp
    refine (eqState_any tm vo _ _ x _ hKe.ox.ens hOA.ens (unhide HSX).1).mono ?_
    rintro e wB8 ⟨rfl, hbB⟩
    have hKf := hKe.below hbB
    clear hKe hbB hOA
    go_wp2_with fail
    refine hK.out _ _ ?_ (fun hHeld => ?_)
    · exact ⟨hKf.t.x1.cell 0 rfl, hKf.t.x1.cell 1 rfl, hKf.t.x1.cell 2 rfl, hKf.y1.cell 0 rfl, hKf.y1.cell 1 rfl, hKf.y1.cell 2 rfl⟩
    clear hK K
    (try simp only [Act.put, List.getElem_toArray, List.getElem_cons_succ, List.getElem_cons_zero, List.setIfInBounds_toArray, List.set_cons_zero, List.set_cons_succ])
    refine wpAnyH_take (i := 4) (oi := _) (v := ?_) rfl (by kernel_rfl) (by kernel_rfl) (by kernel_rfl) (fun _ _ _ h => h) (Or.inl ⟨by rfl, ?_⟩) (by assumption) ?_
    rotate_left 1
    · (intro wq hSw; (try dsimp only at hSw); (try simp only [List.getElem_toArray, List.getElem_cons_succ, List.getElem_cons_zero]); go_simp; try with_reducible rfl)
    (try simp only [Act.put, List.getElem_toArray, List.getElem_cons_succ, List.getElem_cons_zero, List.setIfInBounds_toArray, List.set_cons_zero, List.set_cons_succ])
    refine wpAnyH_done (by kernel_rfl) (NoPanic.normal ?_) _
    have K8 := hide hKf
    clear hKf K7
    go_upto_region 16 with fail
    have hKd := (unhide K8).below (below_drewN (Below.refl _ _) 1)
    change Kr _ _ _ _ _ _ _ _ _ _ _ _ _ _ _ _ _ _ _ _ (World.drew _) at hKd
    refine wp_region_noPanic ?_
    refine wp_region_held_drew (S := (fun wx => wx.cell? ⟨w.heap.size + 1, 0, none⟩ = some (.int .i64 tm2) ∧ wx.cell? ⟨w.heap.size + 1, 1, none⟩ = some (.int .i64 vo2) ∧ wx.cell? ⟨w.heap.size + 1, 2, none⟩ = some (.slice a2 y.length cap2) ∧ wx.cell? ⟨yb, 0, none⟩ = some (.int .i64 tm2) ∧ wx.cell? ⟨yb, 1, none⟩ = some (.int .i64 vo2) ∧ wx.cell? ⟨yb, 2, none⟩ = some (.slice (some ⟨gB, 0, none⟩) y.length y.length))) (by kernel_rfl) ?_ (fun hHeld => ?_)
    · exact ⟨hKd.t.x2.cell 0 rfl, hKd.t.x2.cell 1 rfl, hKd.t.x2.cell 2 rfl, hKd.y2.cell 0 rfl, hKd.y2.cell 1 rfl, hKd.y2.cell 2 rfl⟩
    refine wpAnyH_take (i := 0) (oi := _) (v := ?_) rfl (by kernel_rfl) (by kernel_rfl) (by kernel_rfl) (fun _ _ _ h => h) (Or.inl ⟨by rfl, ?_⟩) (by assumption) ?_
    rotate_left 1
    · (intro wq hSw; (try dsimp only at hSw); (try simp only [List.getElem_toArray, List.getElem_cons_succ, List.getElem_cons_zero]); go_simp; try with_reducible rfl)
    (try simp only [Act.put, List.getElem_toArray, List.getElem_cons_succ, List.getElem_cons_zero, List.setIfInBounds_toArray, List.set_cons_zero, List.set_cons_succ])
    refine wpAnyH_take (i := 1) (oi := _) (v := ?_) rfl (by kernel_rfl) (by kernel_rfl) (by kernel_rfl) (fun _ _ _ h => h) (Or.inl ⟨by rfl, ?_⟩) (by assumption) ?_
    rotate_left 1
    · (intro wq hSw; (try dsimp only at hSw); (try simp only [List.getElem_toArray, List.getElem_cons_succ, List.getElem_cons_zero]); go_simp; try with_reducible rfl)
    (try simp only [Act.put, List.getElem_toArray, List.getElem_cons_succ, List.getElem_cons_zero, List.setIfInBounds_toArray, List.set_cons_zero, List.set_cons_succ])
    refine wpAnyH_ready (rs := [2]) (by kernel_rfl) (by simp) ?_
    refine AllReadyH.cons (o := _) rfl (fun K hK => ?_) AllReadyH.nil
    go_simp
    refine (toState_any tm2 vo2 (.slice a2 y.length cap2) y _ hKd.t.a2 (unhide HSY).1).mono ?_
    rintro e wA9 ⟨gC9, rfl, hOA, hbA⟩
    have hKe := hKd.below hbA
    clear hKd hbA
    go_wp2_with fail
    refine hK.out _ _ ?_ (fun hHeld => ?_)
    · exact ⟨hKe.t.x2.cell 0 rfl, hKe.t.x2.cell 1 rfl, hKe.t.x2.cell 2 rfl, hKe.y2.cell 0 rfl, hKe.y2.cell 1 rfl, hKe.y2.cell 2 rfl⟩
    clear hK K
    (try simp only [Act.put, List.getElem_toArray, List.getElem_cons_succ, List.getElem_cons_zero, List.setIfInBounds_toArray, List.set_cons_zero, List.set_cons_succ])
    refine wpAnyH_ready (rs := [3]) (by kernel_rfl) (by simp) ?_
    refine AllReadyH.cons (o := _) rfl (fun K hK => ?_) AllReadyH.nil
    go_simp
    refine (eqState_any tm2 vo2 _ _ y _ hKe.oy.ens hOA.ens (unhide HSY).1).mono ?_
    rintro e wB9 ⟨rfl, hbB⟩
    have hKf := hKe.below hbB
    clear hKe hbB hOA
    go_wp2_with fail
    refine hK.out _ _ ?_ (fun hHeld => ?_)
    · exact ⟨hKf.t.x2.cell 0 rfl, hKf.t.x2.cell 1 rfl, hKf.t.x2.cell 2 rfl, hKf.y2.cell 0 rfl, hKf.y2.cell 1 rfl, hKf.y2.cell 2 rfl⟩
    clear hK K
    (try simp only [Act.put, List.getElem_toArray, List.getElem_cons_succ, List.getElem_cons_zero, List.setIfInBounds_toArray, List.set_cons_zero, List.set_cons_succ])
    refine wpAnyH_take (i := 4) (oi := _) (v := ?_) rfl (by kernel_rfl) (by kernel_rfl) (by kernel_rfl) (fun _ _ _ h => h) (Or.inl ⟨by rfl, ?_⟩) (by assumption) ?_
    rotate_left 1
    · (intro wq hSw; (try dsimp only at hSw); (try simp only [List.getElem_toArray, List.getElem_cons_succ, List.getElem_cons_zero]); go_simp; try with_reducible rfl)
    (try simp only [Act.put, List.getElem_toArray, List.getElem_cons_succ, List.getElem_cons_zero, List.setIfInBounds_toArray, List.set_cons_zero, List.set_cons_succ])
    refine wpAnyH_done (by kernel_rfl) (NoPanic.normal ?_) _
    have K9 := hide hKf
    clear hKf K8
    have c0 := (unhide K9).y1.cell 0 rfl
    have c1 := (unhide K9).y1.cell 1 rfl
    have c2 := (unhide K9).y1.cell 2 rfl
    go_wp2_with fail
    clear c0 c1 c2
    have HC := hide (markState_any 1 (by omega) (by omega) tm vo (w.heap.size + 2) _ _ _ x _ (unhide K9).ox (unhide HSX).1)
    refine (unhide HC).mono ?_
    rintro e w10 ⟨rfl, hO, hT⟩
    have K10 := hide ((unhide K9).markX (unhide HL) (unhide HF) (unhide HF2) hO hT)
    clear HC hO hT K9
    have hsx := (unhide HSX).1
    have hsy := (unhide HSY).1
    obtain ⟨k1, hk1⟩ : ∃ k1 : Nat, ((1 : Nat) : Int) + 3 * (x.length : Int) = (k1 : Int) := ⟨1 + 3 * x.length, by omega⟩
    rw [hk1]
    have c0 := (unhide K10).y2.cell 0 rfl
    have c1 := (unhide K10).y2.cell 1 rfl
    have c2 := (unhide K10).y2.cell 2 rfl
    have HC := hide (markState_any k1 (by omega) (by omega) tm2 vo2 (w.heap.size + 2) _ _ _ y _ (unhide K10).oy (unhide HSY).1)
    clear hk1
    go_wp2_with fail
    clear c0 c1 c2
    refine (unhide HC).mono ?_
    rintro e w11 ⟨rfl, hO, hT⟩
    have K11 := hide ((unhide K10).markY (unhide HL) (unhide HF) (unhide HF2) hO hT)
    clear HC hO hT K10 hsx
    obtain ⟨k2, hk2⟩ : ∃ k2 : Nat, (k1 : Int) + 3 * (y.length : Int) = (k2 : Int) := ⟨k1 + 3 * y.length, by omega⟩
    rw [hk2]
    have hk2n : ¬ (k2 : Int) < 0 := by omega
    clear hk2 hsy
    go_wp2_with fail
    refine (eqStringS_any _ _ T w11 (unhide K11).og.strs (unhide K11).ow.strs hTl).mono ?_
    rintro e w12 ⟨rfl, n, hw12⟩
    have K12 := hide ((unhide K11).below (below_drewN (Below.refl _ w11) n))
    rw [← hw12] at K12
    clear hw12 K11
    go_wp2_with fail
    refine (markStringS_any (w.heap.size + 2) gv T w12 (unhide K12).og hTl).mono ?_
    rintro e w13 ⟨rfl, hO, hT⟩
    have K13 := hide ((unhide K12).markG (unhide HL) (unhide HF) (unhide HF2) hO hT)
    clear hO hT K12
    go_wp2_with fail
    refine (heldStringS_any (w.heap.size + 2) gv T.length w13 (unhide K13).og hTl).mono ?_
    rintro e w14 ⟨rfl, hb⟩
    have K14 := hide ((unhide K13).below hb)
    clear hb K13
    have hk14 : ¬ 1 + (T.length : Int) < 0 := by omega
    go_upto_region 31 with fail
    have hKd := (unhide K14).below (below_drewN (Below.refl _ _) 1)
    change Kr _ _ _ _ _ _ _ _ _ _ _ _ _ _ _ _ _ _ _ _ (World.drew _) at hKd
    refine wp_region_noPanic ?_
    refine wp_region_held_drew (S := (fun wx => wx.cell? ⟨w.heap.size, 0, none⟩ = some (.int .i64 tm) ∧ wx.cell? ⟨w.heap.size, 1, none⟩ = some (.int .i64 vo) ∧ wx.cell? ⟨w.heap.size, 2, none⟩ = some (.slice a x.length cap) ∧ wx.cell? ⟨w.heap.size + 1, 0, none⟩ = some (.int .i64 tm2) ∧ wx.cell? ⟨w.heap.size + 1, 1, none⟩ = some (.int .i64 vo2) ∧ wx.cell? ⟨w.heap.size + 1, 2, none⟩ = some (.slice a2 y.length cap2))) (by kernel_rfl) ?_ (fun hHeld => ?_)
    · exact ⟨hKd.t.x1.cell 0 rfl, hKd.t.x1.cell 1 rfl, hKd.t.x1.cell 2 rfl, hKd.t.x2.cell 0 rfl, hKd.t.x2.cell 1 rfl, hKd.t.x2.cell 2 rfl⟩
    refine wpAnyH_take (i := 0) (oi := _) (v := ?_) rfl (by kernel_rfl) (by kernel_rfl) (by kernel_rfl) (fun _ _ _ h => h) (Or.inl ⟨by rfl, ?_⟩) (by assumption) ?_
    rotate_left 1
    · (intro wq hSw; (try dsimp only at hSw); (try simp only [List.getElem_toArray, List.getElem_cons_succ, List.getElem_cons_zero]); go_simp; try with_reducible rfl)
    (try simp only [Act.put, List.getElem_toArray, List.getElem_cons_succ, List.getElem_cons_zero, List.setIfInBounds_toArray, List.set_cons_zero, List.set_cons_succ])
    refine wpAnyH_take (i := 2) (oi := _) (v := ?_) rfl (by kernel_rfl) (by kernel_rfl) (by kernel_rfl) (fun _ _ _ h => h) (Or.inl ⟨by rfl, ?_⟩) (by assumption) ?_
    rotate_left 1
    · (intro wq hSw; (try dsimp only at hSw); (try simp only [List.getElem_toArray, List.getElem_cons_succ, List.getElem_cons_zero]); go_simp; try with_reducible rfl)
    (try simp only [Act.put, List.getElem_toArray, List.getElem_cons_succ, List.getElem_cons_zero, List.setIfInBounds_toArray, List.set_cons_zero, List.set_cons_succ])
    refine wpAnyH_ready (rs := [1]) (by kernel_rfl) (by simp) ?_
    refine AllReadyH.cons (o := _) rfl (fun K hK => ?_) AllReadyH.nil
    go_simp
    refine (toState_any tm vo (.slice a x.length cap) x _ hKd.t.a1 (unhide HSX).1).mono ?_
    rintro e wA ⟨gC, rfl, hOA, hbA⟩
    have hKe := hKd.below hbA
    clear hKd hbA
    go_wp2_with fail
    refine hK.out _ _ ?_ (fun hHeld => ?_)
    · exact ⟨hKe.t.x1.cell 0 rfl, hKe.t.x1.cell 1 rfl, hKe.t.x1.cell 2 rfl, hKe.t.x2.cell 0 rfl, hKe.t.x2.cell 1 rfl, hKe.t.x2.cell 2 rfl⟩
    clear hK K
    (try simp only [Act.put, List.getElem_toArray, List.getElem_cons_succ, List.getElem_cons_zero, List.setIfInBounds_toArray, List.set_cons_zero, List.set_cons_succ])
    refine wpAnyH_ready (rs := [3]) (by kernel_rfl) (by simp) ?_
    refine AllReadyH.cons (o := _) rfl (fun K hK => ?_) AllReadyH.nil
    go_simp
    refine (toState_any tm2 vo2 (.slice a2 y.length cap2) y _ hKe.t.a2 (unhide HSY).1).mono ?_
    rintro e wB ⟨gD, rfl, hOB, hbB⟩
    have hKf := hKe.below hbB
    have hOA2 := hOA.below hbB
    clear hKe hbB hOA
    go_wp2_with fail
    refine hK.out _ _ ?_ (fun hHeld => ?_)
    · exact ⟨hKf.t.x1.cell 0 rfl, hKf.t.x1.cell 1 rfl, hKf.t.x1.cell 2 rfl, hKf.t.x2.cell 0 rfl, hKf.t.x2.cell 1 rfl, hKf.t.x2.cell 2 rfl⟩
    clear hK K
    (try simp only [Act.put, List.getElem_toArray, List.getElem_cons_succ, List.getElem_cons_zero, List.setIfInBounds_toArray, List.set_cons_zero, List.set_cons_succ])
    refine wpAnyH_ready (rs := [4]) (by kernel_rfl) (by simp) ?_
    refine AllReadyH.cons (o := _) rfl (fun K hK => ?_) AllReadyH.nil
    go_simp
    refine (unhide HIM wB _ _ _ _ hOA2.ens hOB.ens).mono ?_
    rintro e wC ⟨hv, rfl, hOh, hbC⟩
    have hKg := hKf.below hbC
    clear hKf hbC hOA2 hOB
    go_wp2_with fail
    refine hK.out _ _ ?_ (fun hHeld => ?_)
    · exact ⟨hKg.t.x1.cell 0 rfl, hKg.t.x1.cell 1 rfl, hKg.t.x1.cell 2 rfl, hKg.t.x2.cell 0 rfl, hKg.t.x2.cell 1 rfl, hKg.t.x2.cell 2 rfl⟩
    clear hK K
    (try simp only [Act.put, List.getElem_toArray, List.getElem_cons_succ, List.getElem_cons_zero, List.setIfInBounds_toArray, List.set_cons_zero, List.set_cons_succ])
    refine wpAnyH_take (i := 5) (oi := _) (v := ?_) rfl (by kernel_rfl) (by kernel_rfl) (by kernel_rfl) (fun _ _ _ h => h) (Or.inl ⟨by rfl, ?_⟩) (by assumption) ?_
    rotate_left 1
    · (intro wq hSw; (try dsimp only at hSw); (try simp only [List.getElem_toArray, List.getElem_cons_succ, List.getElem_cons_zero]); go_simp; try with_reducible rfl)
    (try simp only [Act.put, List.getElem_toArray, List.getElem_cons_succ, List.getElem_cons_zero, List.setIfInBounds_toArray, List.set_cons_zero, List.set_cons_succ])
    refine wpAnyH_take (i := 6) (oi := _) (v := ?_) rfl (by kernel_rfl) (by kernel_rfl) (by kernel_rfl) (fun _ _ _ h => h) (Or.inl ⟨by rfl, ?_⟩) (by assumption) ?_
    rotate_left 1
    · (intro wq hSw; (try dsimp only at hSw); (try simp only [List.getElem_toArray, List.getElem_cons_succ, List.getElem_cons_zero]); go_simp; try with_reducible rfl)
    (try simp only [Act.put, List.getElem_toArray, List.getElem_cons_succ, List.getElem_cons_zero, List.setIfInBounds_toArray, List.set_cons_zero, List.set_cons_succ])
    refine wpAnyH_take (i := 7) (oi := _) (v := ?_) rfl (by kernel_rfl) (by kernel_rfl) (by kernel_rfl) (fun _ _ _ h => h) (Or.inl ⟨by rfl, ?_⟩) (by assumption) ?_
    rotate_left 1
    · (intro wq hSw; (try dsimp only at hSw); (try simp only [List.getElem_toArray, List.getElem_cons_succ, List.getElem_cons_zero]); go_simp; try with_reducible rfl)
    (try simp only [Act.put, List.getElem_toArray, List.getElem_cons_succ, List.getElem_cons_zero, List.setIfInBounds_toArray, List.set_cons_zero, List.set_cons_succ])
    refine wpAnyH_take (i := 8) (oi := _) (v := ?_) rfl (by kernel_rfl) (by kernel_rfl) (by kernel_rfl) (fun _ _ _ h => h) (Or.inl ⟨by rfl, ?_⟩) (by assumption) ?_
    rotate_left 1
    · (intro wq hSw; (try dsimp only at hSw); (try simp only [List.getElem_toArray, List.getElem_cons_succ, List.getElem_cons_zero]); go_simp; try with_reducible rfl)
    (try simp only [Act.put, List.getElem_toArray, List.getElem_cons_succ, List.getElem_cons_zero, List.setIfInBounds_toArray, List.set_cons_zero, List.set_cons_succ])
    refine wpAnyH_take (i := 9) (oi := _) (v := ?_) rfl (by kernel_rfl) (by kernel_rfl) (by kernel_rfl) (fun _ _ _ h => h) (Or.inl ⟨by rfl, ?_⟩) (by assumption) ?_
    rotate_left 1
    · (intro wq hSw; (try dsimp only at hSw); (try simp only [List.getElem_toArray, List.getElem_cons_succ, List.getElem_cons_zero]); go_simp; try with_reducible rfl)
    (try simp only [Act.put, List.getElem_toArray, List.getElem_cons_succ, List.getElem_cons_zero, List.setIfInBounds_toArray, List.set_cons_zero, List.set_cons_succ])
    refine wpAnyH_done (by kernel_rfl) (NoPanic.normal ?_) _
    have K15 := hide hKg
    have O15 := hide hOh
    clear hKg hOh K14
    go_wp2_with fail
    refine (eqStringS_any _ _ T wC (unhide O15).strs (unhide K15).ow.strs hTl).mono ?_
    rintro e w16 ⟨rfl, n, hw16⟩
    have K16 := hide ((unhide K15).below (below_drewN (Below.refl _ wC) n))
    rw [← hw16] at K16
    clear hw16 K15 O15
    go_wp2_with fail
    refine (heldStringS_any (w.heap.size + 2) gv T.length w16 (unhide K16).og hTl).mono ?_
    rintro e w17 ⟨rfl, hb⟩
    have K17 := hide ((unhide K16).below hb)
    clear hb K16
    go_wp2_with fail
    go_ret
    exact ⟨rfl, (unhide K17).t.b⟩
theorem own : ownKnob Try.prog.godebug = none := by kernel_rfl
theorem laidOut : laidOutB Try.prog = true := by kernel_rfl
set_option maxRecDepth 100000 in
theorem lifted (os : Os) (started : os.Started) (H : Type) (enc : TypeId × Value → H) :
    ReturnsInHanded {} Try.checked os 7 .any (Rows.fnExactStateRecordsSpec.pre6 enc Try.prog Try.f7 Rows.fnExactStateRecordsRow.domain false) (Rows.fnExactStateRecordsSpec.post enc Try.prog Try.f7 false true false false) := by
  refine returnsInHanded_of_change (C := Try.checked) own started (by kernel_rfl) Try.func7
    (ChangeSpec.witness6 (enc := enc) (C := Try.checked) false ⟨#[], #[.agg #[.int .i64 0, .int .i64 0, .slice none 0 0], .agg #[.int .i64 0, .int .i64 0, .slice none 0 0]], []⟩ 8 (by kernel_rfl) (by kernel_rfl) (by kernel_rfl) (by kernel_rfl)) ?_
  intro W base args ds gs before hval0 hW hcnd _
  have hval : ∀ (j : Nat) t v, Try.f7.params[j]? = some t → args[j]? = some v → Value.okWide Try.prog W .any base t v := hval0
  have hW' := hW
  obtain ⟨p, q, hA0, hV, rfl, hfz, hnd⟩ := hW
  have hA : DataW.TrodAll enc Try.prog W 0 (fun _ => true) true Try.f7.params.toList args.toList ds p := hA0
  rw [Try.params7] at hA hval
  obtain ⟨v0, vs0, d0, ds0, p0, q0, hargs, rfl, rfl, h0, r0⟩ := trodAll_cons hA
  obtain ⟨v1, vs1, d1, ds1, p1, q1, rfl, rfl, rfl, h1, r1⟩ := trodAll_cons r0
  obtain ⟨rfl, rfl, rfl⟩ := trodAll_nil r1
  obtain rfl : args = #[v0, v1] := by cases args; simp_all
  obtain ⟨rfl, rfl⟩ := trodVars_none hV
  have k0 := h0
  have lt0 : ∀ x ∈ p0, x.block < W.heap.size := by obtain ⟨m, hm⟩ := k0; exact DataW.trod_lt m _ _ _ hm
  obtain ⟨tm0, vo0, u0, l0, rfl, hf0, hz0⟩ := open_state (hval 0 57 v0 rfl rfl) h0
  have k1 := h1
  have lt1 : ∀ x ∈ p1, x.block < W.heap.size := by obtain ⟨m, hm⟩ := k1; exact DataW.trod_lt m _ _ _ hm
  obtain ⟨tm1, vo1, u1, l1, rfl, hf1, hz1⟩ := open_state (hval 1 57 v1 rfl rfl) h1
  clear hA0 hval0
  refine (walk tm0 vo0 u0 l0 tm1 vo1 u1 l1 W hf0 hz0 hf1 hz1).mono fun e W' ⟨he, bel⟩ => ?_
  subst he
  exact ⟨_, rfl, _, _, _, [], _, [], hW', trodAll_mk1 (shut_bool Try.underlying4 _), (trodAll_cons_mk (Below.trod laidOut (by kernel_rfl) (of_decide_eq_true (by kernel_rfl)) k0 bel lt0) (trodAll_cons_mk (Below.trod laidOut (by kernel_rfl) (of_decide_eq_true (by kernel_rfl)) k1 bel lt1) trodAll_mk0)), rfl, bel.frame _, fun h => by cases h⟩

theorem over : Rows.fnExactStateRecordsRow.holds Try.pinned (OpenSpec.ofChange Rows.fnExactStateRecordsSpec) :=
  OpenClaim.holds_of_wide 7 Try.f7 rfl rfl rfl rfl rfl rfl rfl ⟨rfl, rfl, rfl, rfl, rfl⟩ rfl rfl rfl rfl rfl (by kernel_rfl) Try.func7 (by kernel_rfl)
    (of_decide_eq_true (by kernel_rfl)) (by unfold Func.isWrapper; first | (rw [if_pos (by decide +kernel)]; kernel_rfl) | (rw [if_neg (by decide +kernel)]; exact ⟨rfl, rfl⟩))
    (fun os started H enc _ => lifted os started H enc)

end Go.Proofs.Ytafbdjcoimopfaa.fnExactStateRecords
namespace Go.Proofs.Ytafbdjcoimopfaa
theorem fnExactStateRecords_holds : Rows.FnExactStateRecordsSaid := fnExactStateRecords.over
#print axioms fnExactStateRecords_holds
end Go.Proofs.Ytafbdjcoimopfaa
