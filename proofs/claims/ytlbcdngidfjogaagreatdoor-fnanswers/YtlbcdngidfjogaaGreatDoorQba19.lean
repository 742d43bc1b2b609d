/- What the proof of the claim needs (joined by program): ApH. -/
import Derived.Test.YtlbcdngidfjogaaGreatDoorQba18
import Derived.Test.YtlbcdngidfjogaaGreatDoorQba08
import Derived.Deep.DeepCutAuto
namespace Go.Proofs.YtlbcdngidfjogaaGreatDoor.Sha
set_option maxRecDepth 100000
set_option maxHeartbeats 8000000
open Go.ChangeShapes Go.WideShapes Go.ChangeAt Go.RowKit Go.Deep
set_option linter.unusedVariables false
set_option linter.unusedSimpArgs false
def AnG (T : Nat → Prop) (wr : World) (nb rv : Nat) (y : Lst × Re) (lv kv sv : Value) (wx : World) : Prop :=
 Below wr.heap.size wr wx ∧ wr.heap.size ≤ nb ∧ wr.heap.size ≤ rv ∧ Blk wx nb (ledC y.1 lv kv sv) ∧ Blk wx rv [.int .i64 y.2.kd, .int .i64 y.2.pl, .string y.2.vl] ∧ LedB T wx y.1 lv kv sv
def AnI (w : World) (lb : Nat) (l : List Cm) (c : Cm) (k : Nat) (wr : World) : Prop :=
 Below w.heap.size w wr ∧ Blk wr w.heap.size [.int .i64 c.kd, .int .i64 c.ss, .int .i64 c.sq, .string c.ky, .string c.vl] ∧ Blk wr (w.heap.size + 1) [.int .i64 0, .int .i64 0, .string ⟨#[]⟩] ∧ Fin wr (w.heap.size + 1) 7 ∧ Fin wr lb 7 ∧ ∃ lv kv sv, Blk wr lb (ledC (stA l k) lv kv sv) ∧ LedB (fun x => x = w.heap.size + 1 ∨ x = lb) wr (stA l k) lv kv sv
theorem l13Answer_any (v : Value) (l : List Cm) (c : Cm) (w : World) (h : Css w v l) (hs : l.length ≤ 120) (hk : ∀ i, i < l.length → cmK (l.getD i default) = true) :
  Calls Tryz.prog 14 #[v, .agg #[.int .i64 c.kd, .int .i64 c.ss, .int .i64 c.sq, .string c.ky, .string c.vl]] w fun e w' => ((∃ k : Nat, At l c k ∧ e = .returned (.tuple #[.agg #[.int .i64 (reA l k).kd, .int .i64 (reA l k).pl, .string (reA l k).vl], .int .i64 (k : Int), .bool true])) ∨ (No l c ∧ e = .returned (.tuple #[.agg #[.int .i64 0, .int .i64 0, .string ⟨#[]⟩], .int .i64 0, .bool false]))) ∧ Below w.heap.size w w' := by
 obtain ⟨a, cap, rfl, hn, hm, hc⟩ := h
 have HC := Hd hc
 have HK := Hd hk
 clear hc hm hn hk
 have B0 := Hd ((bal w (.cells #[.int .i64 c.kd, .int .i64 c.ss, .int .i64 c.sq, .string c.ky, .string c.vl] 31)).alloc (by simp) (.cells #[.int .i64 0, .int .i64 0, .string ⟨#[]⟩] 27))
 have C0 := Hd ((Blk.new w #[.int .i64 c.kd, .int .i64 c.ss, .int .i64 c.sq, .string c.ky, .string c.vl] 31 w.heap.size rfl).alloc (.cells #[.int .i64 0, .int .i64 0, .string ⟨#[]⟩] 27))
 have R0 := Hd (Blk.new (w.alloc (.cells #[.int .i64 c.kd, .int .i64 c.ss, .int .i64 c.sq, .string c.ky, .string c.vl] 31)) #[.int .i64 0, .int .i64 0, .string ⟨#[]⟩] 27 (w.heap.size + 1) (by simp))
 have F0 := Hd (Fin.new (w.alloc (.cells #[.int .i64 c.kd, .int .i64 c.ss, .int .i64 c.sq, .string c.ky, .string c.vl] 31)) #[.int .i64 0, .int .i64 0, .string ⟨#[]⟩] 27 (w.heap.size + 1) 7 (by simp) (by simp))
 go_enter Tryz.func14, Tryz.ntmps14
 go_upto_region 1 with fail
 generalize (w.alloc (.cells #[.int .i64 c.kd, .int .i64 c.ss, .int .i64 c.sq, .string c.ky, .string c.vl] 31)).alloc (.cells #[.int .i64 0, .int .i64 0, .string ⟨#[]⟩] 27) = w0 at *
 have hw0 : w.heap.size + 1 < w0.heap.size := (uh R0).1
 have bA := bal w0 (.cells #[.slice none 0 0, .string ⟨#[]⟩, .string ⟨#[]⟩, .int .i64 0, .slice none 0 0, .slice none 0 0] 42)
 have NZ := Blk.new w0 #[.slice none 0 0, .string ⟨#[]⟩, .string ⟨#[]⟩, .int .i64 0, .slice none 0 0, .slice none 0 0] 42 w0.heap.size rfl
 have I0 : Hid (AnI w w0.heap.size l c 0 (w0.alloc (.cells #[.slice none 0 0, .string ⟨#[]⟩, .string ⟨#[]⟩, .int .i64 0, .slice none 0 0, .slice none 0 0] 42))) := Hd ⟨(uh B0).trans (bA.mono (uh B0).size), (uh C0).below bA, (uh R0).below bA, (uh F0).below bA, Fin.new w0 #[.slice none 0 0, .string ⟨#[]⟩, .string ⟨#[]⟩, .int .i64 0, .slice none 0 0, .slice none 0 0] 42 w0.heap.size 7 rfl (by simp), .slice none 0 0, .slice none 0 0, .slice none 0 0, NZ, LedB.nil _ _⟩
 obtain ⟨⟨zc0, zc1, zc2, zc3, zc4, zc5⟩, zf0, zf1, zf2, zf3, zf4, zf5⟩ := Blk.c6 NZ
 clear bA B0 C0 R0 F0 NZ
 go_upto_region 2 with fail
 clear zc0 zf0 zc1 zf1 zc2 zf2 zc3 zf3 zc4 zf4 zc5 zf5
 generalize w0.alloc (.cells #[.slice none 0 0, .string ⟨#[]⟩, .string ⟨#[]⟩, .int .i64 0, .slice none 0 0, .slice none 0 0] 42) = w1 at *
 generalize w0.heap.size = lb at *
 go_wp2_with fail
 go_loopw [8] (fun i wr => ∃ k : Nat, k ≤ l.length ∧ i = .int .i64 k ∧ Hid (∀ j, j < k → l.getD j default ≠ c) ∧ Hid (AnI w lb l c k wr)) (fun i _ => l.length - (intOf i).toNat)
 case atStart => exact ⟨0, Nat.zero_le _, rfl, Hd (fun j hj => absurd hj (Nat.not_lt_zero _)), I0⟩
 case round =>
  obtain ⟨k, hk, rfl, HGO, HI⟩ := hrel
  clear I0
  by_cases hlt : k < l.length
  ·obtain ⟨b, off, rfl, hbl, hsrc⟩ : ∃ b off, a = some ⟨b, off, none⟩ ∧ b < w.heap.size ∧ ∀ i, i < l.length → w.cell? ⟨b, off + i * 5, none⟩ = some (.int .i64 (l.getD i default).kd) ∧ w.cell? ⟨b, off + i * 5 + 1, none⟩ = some (.int .i64 (l.getD i default).ss) ∧ w.cell? ⟨b, off + i * 5 + 2, none⟩ = some (.int .i64 (l.getD i default).sq) ∧ w.cell? ⟨b, off + i * 5 + 3, none⟩ = some (.string (l.getD i default).ky) ∧ w.cell? ⟨b, off + i * 5 + 4, none⟩ = some (.string (l.getD i default).vl) := by
    rcases uh HC with h0 | h1
    ·omega
    ·exact h1
   obtain ⟨K0, C0, R0, FR0, FL0, lv, kv, sv, L0, LB0⟩ := uh HI
   have K := Hd K0
   have C := Hd C0
   have R := Hd R0
   have FR := Hd FR0
   have FL := Hd FL0
   obtain ⟨la, lc, ka, kn, kc, sa, sc, rfl, rfl, rfl⟩ := LB0.shape
   have LBx := Hd LB0
   have L := Hd L0
   have HOK := Hd (stA_ok (l := l) k (fun i hi => uh HK i (by omega)))
   have HCK := Hd (uh HK k hlt)
   have HST : Hid (stA l (k + 1) = (apOut (stA l k) (l.getD k default)).1) := Hd rfl
   have HRE : Hid (reA l k = (apOut (stA l k) (l.getD k default)).2) := Hd rfl
   obtain ⟨s0, s1, s2, s3, s4⟩ := hsrc k hlt
   have d0 := (K0.cell (p := ⟨b, off + k * 5, none⟩) hbl).trans s0
   have d1 := (K0.cell (p := ⟨b, off + k * 5 + 1, none⟩) hbl).trans s1
   have d2 := (K0.cell (p := ⟨b, off + k * 5 + 2, none⟩) hbl).trans s2
   have d3 := (K0.cell (p := ⟨b, off + k * 5 + 3, none⟩) hbl).trans s3
   have d4 := (K0.cell (p := ⟨b, off + k * 5 + 4, none⟩) hbl).trans s4
   obtain ⟨f, hf⟩ : ∃ f, f = l.getD k default := ⟨_, rfl⟩
   rw [← hf] at d0 d1 d2 d3 d4 HCK HST HRE
   have HF := Hd hf
   have hbw : b < wr.heap.size := by have := K0.size; omega
   have hlb : lb < wr.heap.size := FL0.1
   have hrb : w.heap.size + 1 < wr.heap.size := R0.1
   have hk0 : (0 : Int) ≤ (k : Int) := by omega
   have hk1 : (k : Int) < (l.length : Int) := by omega
   have m2 : IntKind.i64.wrap ((k : Int) + 1) = (k : Int) + 1 := wrapCm _ (by omega) (by omega)
   clear HI K0 C0 R0 FR0 FL0 L0 LB0 hsrc s0 s1 s2 s3 s4 hf
   generalize stA l k = x at *
   obtain ⟨ls, o, ss⟩ := x
   obtain ⟨f0, f1, f2, f3, f4⟩ := f
   dsimp only at d0 d1 d2 d3 d4
   have HCA := Hd (fun (T : Nat → Prop) wx (h : LedB T wx ⟨ls, o, ss⟩ (.slice la ls.length lc) (.slice ka kn kc) (.slice sa ss.length sc)) => l09Apply_any ls o ss la ka sa lc kn kc sc ⟨f0, f1, f2, f3, f4⟩ wx (fun x => ¬ T x ∧ x < wx.heap.size) (fun x h9 => h9.2) h.s h.b.boundS h.e (uh HOK) (uh HCK))
   dsimp only at HCA
   generalize apOut ⟨ls, o, ss⟩ ⟨f0, f1, f2, f3, f4⟩ = y at *
   obtain ⟨⟨lsN, oN, ssN⟩, rN⟩ := y
   dsimp only at HST HRE
   obtain ⟨⟨x0, x1, x2, x3, x4, x5⟩, _⟩ := Blk.c6 (uh L)
   dsimp only at x0 x1 x2 x3 x4 x5
   clear HOK HCK
   go_upto_region 5 with fail
   go_cut [9, 10] (fun s9 s10 wx => ∃ nb rv lv kv sv, s9 = .pointer (some ⟨nb, 0, none⟩) ∧ s10 = .pointer (some ⟨rv, 0, none⟩) ∧ Hid (AnG (fun x => x = w.heap.size + 1 ∨ x = lb) wr nb rv (⟨lsN, oN, ssN⟩, rN) lv kv sv wx))
   case first =>
    refine wp_region_noPanic ?_
    refine wp_region_held_drew (S := (fun wx => wx.cell? ⟨lb, 0, none⟩ = some (.slice la ls.length lc) ∧ wx.cell? ⟨lb, 1, none⟩ = some (.string (brOf o).key) ∧ wx.cell? ⟨lb, 2, none⟩ = some (.string (brOf o).val) ∧ wx.cell? ⟨lb, 3, none⟩ = some (.int .i64 (brOf o).at_) ∧ wx.cell? ⟨lb, 4, none⟩ = some (.slice ka kn kc) ∧ wx.cell? ⟨lb, 5, none⟩ = some (.slice sa ss.length sc) ∧ wx.cell? ⟨b, off + k * 5, none⟩ = some (.int .i64 f0) ∧ wx.cell? ⟨b, off + k * 5 + 1, none⟩ = some (.int .i64 f1) ∧ wx.cell? ⟨b, off + k * 5 + 2, none⟩ = some (.int .i64 f2) ∧ wx.cell? ⟨b, off + k * 5 + 3, none⟩ = some (.string f3) ∧ wx.cell? ⟨b, off + k * 5 + 4, none⟩ = some (.string f4))) (by kernel_rfl) ?_ (fun hHeld => ?_)
    ·exact ⟨x0, x1, x2, x3, x4, x5, d0, d1, d2, d3, d4⟩
    refine tkH 0 rfl ?_
    refine tkH 1 rfl ?_
    refine tkH 2 rfl ?_
    refine tkH 3 rfl ?_
    refine tkH 4 rfl ?_
    have HBx := Hd (below_drewN (Below.refl wr.heap.size wr) 1)
    change Hid (Below wr.heap.size wr wr.drew) at HBx
    have hdr := uh HBx
    replace FR := Hd ((uh FR).below hdr)
    replace FL := Hd ((uh FL).below hdr)
    replace LBx := Hd ((uh LBx).below hdr)
    clear hdr
    generalize wr.drew = y0 at *
    refine rdy3 5 9 10 rfl rfl rfl (fun K hK => ?_) (fun K hK => ?_) (fun K hK => ?_)
    ·go_simp
     refine (uh HCA _ y0 (uh LBx)).mono ?_
     rintro e y1 ⟨lv2, kv2, sv2, rfl, hs2, hb2, he2, hbs, fl2, fs2⟩
     dsimp only at hs2 hb2 he2
     replace LBx := Hd ((uh LBx).next (y := ⟨lsN, oN, ssN⟩) hs2 (hb2.mono (fun _ _ => trivial)) he2 fl2 fs2 (fun k hk => by rcases hk with rfl | rfl; exact ⟨(uh FR).1, (uh FR).below hbs⟩; exact ⟨(uh FL).1, (uh FL).below hbs⟩))
     obtain ⟨la2, lc2, ka2, kn2, kc2, sa2, sc2, rfl, rfl, rfl⟩ := (uh LBx).shape
     dsimp only
     clear hs2 hb2 he2 fl2 fs2
     replace HBx := hbt HBx hbs
     replace FR := Hd ((uh FR).below hbs)
     replace FL := Hd ((uh FL).below hbs)
     have hbX := uh HBx
     go_wp2_with fail
     refine outH hK ?_ (fun hHeld => ?_)
     ·exact ⟨(hbX.cell (p := ⟨lb, 0, none⟩) hlb).trans x0, (hbX.cell (p := ⟨lb, 1, none⟩) hlb).trans x1, (hbX.cell (p := ⟨lb, 2, none⟩) hlb).trans x2, (hbX.cell (p := ⟨lb, 3, none⟩) hlb).trans x3, (hbX.cell (p := ⟨lb, 4, none⟩) hlb).trans x4, (hbX.cell (p := ⟨lb, 5, none⟩) hlb).trans x5, (hbX.cell (p := ⟨b, off + k * 5, none⟩) hbw).trans d0, (hbX.cell (p := ⟨b, off + k * 5 + 1, none⟩) hbw).trans d1, (hbX.cell (p := ⟨b, off + k * 5 + 2, none⟩) hbw).trans d2, (hbX.cell (p := ⟨b, off + k * 5 + 3, none⟩) hbw).trans d3, (hbX.cell (p := ⟨b, off + k * 5 + 4, none⟩) hbw).trans d4⟩
     clear hK K
     clear hbX hbs
     refine tkH 6 rfl ?_
     refine tkH 7 rfl ?_
     refine tkH 8 rfl ?_
     refine rdy2 9 10 rfl rfl (fun K hK => ?_) (fun K hK => ?_)
     ·go_simp
      have hbs := bal y1 (.cells #[.slice none 0 0, .string ⟨#[]⟩, .string ⟨#[]⟩, .int .i64 0, .slice none 0 0, .slice none 0 0] 42)
      replace LBx := Hd (((uh LBx).up.mono (T' := fun x => ((x = w.heap.size + 1 ∨ x = lb) ∨ x = y1.heap.size)) (fun x hx => hx.imp id (fun e => by omega))).below hbs)
      have N := Hd (Blk.new y1 #[.slice none 0 0, .string ⟨#[]⟩, .string ⟨#[]⟩, .int .i64 0, .slice none 0 0, .slice none 0 0] 42 y1.heap.size rfl)
      have FN := Hd (Fin.new y1 #[.slice none 0 0, .string ⟨#[]⟩, .string ⟨#[]⟩, .int .i64 0, .slice none 0 0, .slice none 0 0] 42 y1.heap.size 7 rfl (by simp))
      have hnb : wr.heap.size ≤ y1.heap.size := (uh HBx).size
      replace HBx := hbt HBx hbs
      replace FR := Hd ((uh FR).below hbs)
      replace FL := Hd ((uh FL).below hbs)
      have hbX := uh HBx
      refine outH hK ?_ (fun hHeld => ?_)
      ·exact ⟨(hbX.cell (p := ⟨lb, 0, none⟩) hlb).trans x0, (hbX.cell (p := ⟨lb, 1, none⟩) hlb).trans x1, (hbX.cell (p := ⟨lb, 2, none⟩) hlb).trans x2, (hbX.cell (p := ⟨lb, 3, none⟩) hlb).trans x3, (hbX.cell (p := ⟨lb, 4, none⟩) hlb).trans x4, (hbX.cell (p := ⟨lb, 5, none⟩) hlb).trans x5, (hbX.cell (p := ⟨b, off + k * 5, none⟩) hbw).trans d0, (hbX.cell (p := ⟨b, off + k * 5 + 1, none⟩) hbw).trans d1, (hbX.cell (p := ⟨b, off + k * 5 + 2, none⟩) hbw).trans d2, (hbX.cell (p := ⟨b, off + k * 5 + 3, none⟩) hbw).trans d3, (hbX.cell (p := ⟨b, off + k * 5 + 4, none⟩) hbw).trans d4⟩
      clear hK K
      clear hbX hbs
      generalize y1.alloc (.cells #[.slice none 0 0, .string ⟨#[]⟩, .string ⟨#[]⟩, .int .i64 0, .slice none 0 0, .slice none 0 0] 42) = y2 at *
      generalize y1.heap.size = nb at *
      refine rdy1 10 rfl (fun K hK => ?_)
      go_simp
      have hbs := bal y2 (.cells #[.int .i64 0, .int .i64 0, .string ⟨#[]⟩] 27)
      replace LBx := Hd (((uh LBx).up.mono (T' := fun x => (((x = w.heap.size + 1 ∨ x = lb) ∨ x = nb) ∨ x = y2.heap.size)) (fun x hx => hx.imp id (fun e => by omega))).below hbs)
      have V := Hd (Blk.new y2 #[.int .i64 0, .int .i64 0, .string ⟨#[]⟩] 27 y2.heap.size rfl)
      have FV := Hd (Fin.new y2 #[.int .i64 0, .int .i64 0, .string ⟨#[]⟩] 27 y2.heap.size 7 rfl (by simp))
      have hrv : wr.heap.size ≤ y2.heap.size := (uh HBx).size
      have hne : nb ≠ y2.heap.size := by have := (uh N).1; omega
      replace HBx := hbt HBx hbs
      replace FR := Hd ((uh FR).below hbs)
      replace FL := Hd ((uh FL).below hbs)
      replace N := Hd ((uh N).below hbs)
      replace FN := Hd ((uh FN).below hbs)
      have hbX := uh HBx
      refine outH hK ?_ (fun hHeld => ?_)
      ·exact ⟨(hbX.cell (p := ⟨lb, 0, none⟩) hlb).trans x0, (hbX.cell (p := ⟨lb, 1, none⟩) hlb).trans x1, (hbX.cell (p := ⟨lb, 2, none⟩) hlb).trans x2, (hbX.cell (p := ⟨lb, 3, none⟩) hlb).trans x3, (hbX.cell (p := ⟨lb, 4, none⟩) hlb).trans x4, (hbX.cell (p := ⟨lb, 5, none⟩) hlb).trans x5, (hbX.cell (p := ⟨b, off + k * 5, none⟩) hbw).trans d0, (hbX.cell (p := ⟨b, off + k * 5 + 1, none⟩) hbw).trans d1, (hbX.cell (p := ⟨b, off + k * 5 + 2, none⟩) hbw).trans d2, (hbX.cell (p := ⟨b, off + k * 5 + 3, none⟩) hbw).trans d3, (hbX.cell (p := ⟨b, off + k * 5 + 4, none⟩) hbw).trans d4⟩
      clear hK K
      clear hbX hbs
      generalize y2.alloc (.cells #[.int .i64 0, .int .i64 0, .string ⟨#[]⟩] 27) = y3 at *
      generalize y2.heap.size = rv at *
      obtain ⟨⟨n0, n1, n2, n3, n4, n5⟩, _⟩ := Blk.c6 (uh N)
      have v0 := (uh V).cell 0 rfl
      have v1 := (uh V).cell 1 rfl
      have v2 := (uh V).cell 2 rfl
      have nf0 := (uh N).fro 0
      have nf1 := (uh N).fro 1
      have nf2 := (uh N).fro 2
      have nf3 := (uh N).fro 3
      have nf4 := (uh N).fro 4
      have nf5 := (uh N).fro 5
      have vf0 := (uh V).fro 0
      have vf1 := (uh V).fro 1
      have vf2 := (uh V).fro 2
      have hne2 : nb ≠ rv := hne
      have T11 := (((((((Touch.refl (fun x => x = nb ∨ x = rv) y3).setCell ⟨nb, 0, none⟩ (.slice la2 lsN.length lc2) (fun _ => .inl rfl)).setCell ⟨nb, 1, none⟩ (.string (brOf oN).key) (fun _ => .inl rfl)).setCell ⟨nb, 2, none⟩ (.string (brOf oN).val) (fun _ => .inl rfl)).setCell ⟨nb, 3, none⟩ (.int .i64 (brOf oN).at_) (fun _ => .inl rfl)).setCell ⟨nb, 4, none⟩ (.slice ka2 kn2 kc2) (fun _ => .inl rfl)).setCell ⟨nb, 5, none⟩ (.slice sa2 ssN.length sc2) (fun _ => .inl rfl))
      have T12 := (((T11.setCell ⟨rv, 0, none⟩ (.int .i64 rN.kd) (fun _ => .inr rfl)).setCell ⟨rv, 1, none⟩ (.int .i64 rN.pl) (fun _ => .inr rfl)).setCell ⟨rv, 2, none⟩ (.string rN.vl) (fun _ => .inr rfl))
      have N9 := Hd ((((((((((uh N).set 0 (.slice la2 lsN.length lc2) (by simp)).set 1 (.string (brOf oN).key) (by simp)).set 2 (.string (brOf oN).val) (by simp)).set 3 (.int .i64 (brOf oN).at_) (by simp)).set 4 (.slice ka2 kn2 kc2) (by simp)).set 5 (.slice sa2 ssN.length sc2) (by simp)).other (C := rv) 0 (.int .i64 rN.kd) (by omega)).other (C := rv) 1 (.int .i64 rN.pl) (by omega)).other (C := rv) 2 (.string rN.vl) (by omega))
      have V9 := Hd ((((((((((uh V).other (C := nb) 0 (.slice la2 lsN.length lc2) (by omega)).other (C := nb) 1 (.string (brOf oN).key) (by omega)).other (C := nb) 2 (.string (brOf oN).val) (by omega)).other (C := nb) 3 (.int .i64 (brOf oN).at_) (by omega)).other (C := nb) 4 (.slice ka2 kn2 kc2) (by omega)).other (C := nb) 5 (.slice sa2 ssN.length sc2) (by omega)).set 0 (.int .i64 rN.kd) (by simp)).set 1 (.int .i64 rN.pl) (by simp)).set 2 (.string rN.vl) (by simp))
      have hsx := (uh HBx).size
      have hk11 := fun (bq i : Nat) (v : Value) (hb9 : bq < wr.heap.size) (h : wr.cell? ⟨bq, i, none⟩ = some v) => (T11.cell (p := ⟨bq, i, none⟩) (show bq < y3.heap.size by omega) (show ¬ (bq = nb ∨ bq = rv) by omega)).trans (((uh HBx).cell (p := ⟨bq, i, none⟩) hb9).trans h)
      have hk12 := fun (bq i : Nat) (v : Value) (hb9 : bq < wr.heap.size) (h : wr.cell? ⟨bq, i, none⟩ = some v) => (T12.cell (p := ⟨bq, i, none⟩) (show bq < y3.heap.size by omega) (show ¬ (bq = nb ∨ bq = rv) by omega)).trans (((uh HBx).cell (p := ⟨bq, i, none⟩) hb9).trans h)
      have LB9 := Hd ((uh LBx).touch T12 (fun x hx => by rcases hx with e | e <;> omega))
      have B9 := Hd ((uh HBx).trans (T12.below (uh HBx).size (fun x hx e => by rcases e with e | e <;> omega)))
      refine rdy1 11 rfl (fun K hK => ?_)
      go_simp
      refine outH hK ?_ (fun hHeld => ?_)
      ·exact ⟨hk11 _ _ _ hlb x0, hk11 _ _ _ hlb x1, hk11 _ _ _ hlb x2, hk11 _ _ _ hlb x3, hk11 _ _ _ hlb x4, hk11 _ _ _ hlb x5, hk11 _ _ _ hbw d0, hk11 _ _ _ hbw d1, hk11 _ _ _ hbw d2, hk11 _ _ _ hbw d3, hk11 _ _ _ hbw d4⟩
      clear hK K
      refine rdy1 12 rfl (fun K hK => ?_)
      go_simp
      refine outH hK ?_ (fun hHeld => ?_)
      ·exact ⟨hk12 _ _ _ hlb x0, hk12 _ _ _ hlb x1, hk12 _ _ _ hlb x2, hk12 _ _ _ hlb x3, hk12 _ _ _ hlb x4, hk12 _ _ _ hlb x5, hk12 _ _ _ hbw d0, hk12 _ _ _ hbw d1, hk12 _ _ _ hbw d2, hk12 _ _ _ hbw d3, hk12 _ _ _ hbw d4⟩
      clear hK K
      refine wpAnyH_done (by kernel_rfl) (NoPanic.normal ?_) _
      clear hHeld hk11 hk12 T11 T12
      go_wp2_with fail
      go_meet
      exact ⟨nb, rv, _, _, _, rfl, rfl, Hd ⟨uh B9, hnb, hrv, uh N9, uh V9, (uh LB9).mono (fun x hx => .inl (.inl hx))⟩⟩
     ·go_simp
      have hbs := bal y1 (.cells #[.int .i64 0, .int .i64 0, .string ⟨#[]⟩] 27)
      replace LBx := Hd (((uh LBx).up.mono (T' := fun x => ((x = w.heap.size + 1 ∨ x = lb) ∨ x = y1.heap.size)) (fun x hx => hx.imp id (fun e => by omega))).below hbs)
      have V := Hd (Blk.new y1 #[.int .i64 0, .int .i64 0, .string ⟨#[]⟩] 27 y1.heap.size rfl)
      have FV := Hd (Fin.new y1 #[.int .i64 0, .int .i64 0, .string ⟨#[]⟩] 27 y1.heap.size 7 rfl (by simp))
      have hrv : wr.heap.size ≤ y1.heap.size := (uh HBx).size
      replace HBx := hbt HBx hbs
      replace FR := Hd ((uh FR).below hbs)
      replace FL := Hd ((uh FL).below hbs)
      have hbX := uh HBx
      refine outH hK ?_ (fun hHeld => ?_)
      ·exact ⟨(hbX.cell (p := ⟨lb, 0, none⟩) hlb).trans x0, (hbX.cell (p := ⟨lb, 1, none⟩) hlb).trans x1, (hbX.cell (p := ⟨lb, 2, none⟩) hlb).trans x2, (hbX.cell (p := ⟨lb, 3, none⟩) hlb).trans x3, (hbX.cell (p := ⟨lb, 4, none⟩) hlb).trans x4, (hbX.cell (p := ⟨lb, 5, none⟩) hlb).trans x5, (hbX.cell (p := ⟨b, off + k * 5, none⟩) hbw).trans d0, (hbX.cell (p := ⟨b, off + k * 5 + 1, none⟩) hbw).trans d1, (hbX.cell (p := ⟨b, off + k * 5 + 2, none⟩) hbw).trans d2, (hbX.cell (p := ⟨b, off + k * 5 + 3, none⟩) hbw).trans d3, (hbX.cell (p := ⟨b, off + k * 5 + 4, none⟩) hbw).trans d4⟩
      clear hK K
      clear hbX hbs
      generalize y1.alloc (.cells #[.int .i64 0, .int .i64 0, .string ⟨#[]⟩] 27) = y4 at *
      generalize y1.heap.size = rv at *
      refine rdy1 9 rfl (fun K hK => ?_)
      go_simp
      have hbs := bal y4 (.cells #[.slice none 0 0, .string ⟨#[]⟩, .string ⟨#[]⟩, .int .i64 0, .slice none 0 0, .slice none 0 0] 42)
      replace LBx := Hd (((uh LBx).up.mono (T' := fun x => (((x = w.heap.size + 1 ∨ x = lb) ∨ x = rv) ∨ x = y4.heap.size)) (fun x hx => hx.imp id (fun e => by omega))).below hbs)
      have N := Hd (Blk.new y4 #[.slice none 0 0, .string ⟨#[]⟩, .string ⟨#[]⟩, .int .i64 0, .slice none 0 0, .slice none 0 0] 42 y4.heap.size rfl)
      have FN := Hd (Fin.new y4 #[.slice none 0 0, .string ⟨#[]⟩, .string ⟨#[]⟩, .int .i64 0, .slice none 0 0, .slice none 0 0] 42 y4.heap.size 7 rfl (by simp))
      have hnb : wr.heap.size ≤ y4.heap.size := (uh HBx).size
      have hne : rv ≠ y4.heap.size := by have := (uh V).1; omega
      replace HBx := hbt HBx hbs
      replace FR := Hd ((uh FR).below hbs)
      replace FL := Hd ((uh FL).below hbs)
      replace V := Hd ((uh V).below hbs)
      replace FV := Hd ((uh FV).below hbs)
      have hbX := uh HBx
      refine outH hK ?_ (fun hHeld => ?_)
      ·exact ⟨(hbX.cell (p := ⟨lb, 0, none⟩) hlb).trans x0, (hbX.cell (p := ⟨lb, 1, none⟩) hlb).trans x1, (hbX.cell (p := ⟨lb, 2, none⟩) hlb).trans x2, (hbX.cell (p := ⟨lb, 3, none⟩) hlb).trans x3, (hbX.cell (p := ⟨lb, 4, none⟩) hlb).trans x4, (hbX.cell (p := ⟨lb, 5, none⟩) hlb).trans x5, (hbX.cell (p := ⟨b, off + k * 5, none⟩) hbw).trans d0, (hbX.cell (p := ⟨b, off + k * 5 + 1, none⟩) hbw).trans d1, (hbX.cell (p := ⟨b, off + k * 5 + 2, none⟩) hbw).trans d2, (hbX.cell (p := ⟨b, off + k * 5 + 3, none⟩) hbw).trans d3, (hbX.cell (p := ⟨b, off + k * 5 + 4, none⟩) hbw).trans d4⟩
      clear hK K
      clear hbX hbs
      generalize y4.alloc (.cells #[.slice none 0 0, .string ⟨#[]⟩, .string ⟨#[]⟩, .int .i64 0, .slice none 0 0, .slice none 0 0] 42) = y5 at *
      generalize y4.heap.size = nb at *
      obtain ⟨⟨n0, n1, n2, n3, n4, n5⟩, _⟩ := Blk.c6 (uh N)
      have v0 := (uh V).cell 0 rfl
      have v1 := (uh V).cell 1 rfl
      have v2 := (uh V).cell 2 rfl
      have nf0 := (uh N).fro 0
      have nf1 := (uh N).fro 1
      have nf2 := (uh N).fro 2
      have nf3 := (uh N).fro 3
      have nf4 := (uh N).fro 4
      have nf5 := (uh N).fro 5
      have vf0 := (uh V).fro 0
      have vf1 := (uh V).fro 1
      have vf2 := (uh V).fro 2
      have hne2 : nb ≠ rv := fun e => hne e.symm
      have T11 := (((((((Touch.refl (fun x => x = nb ∨ x = rv) y5).setCell ⟨nb, 0, none⟩ (.slice la2 lsN.length lc2) (fun _ => .inl rfl)).setCell ⟨nb, 1, none⟩ (.string (brOf oN).key) (fun _ => .inl rfl)).setCell ⟨nb, 2, none⟩ (.string (brOf oN).val) (fun _ => .inl rfl)).setCell ⟨nb, 3, none⟩ (.int .i64 (brOf oN).at_) (fun _ => .inl rfl)).setCell ⟨nb, 4, none⟩ (.slice ka2 kn2 kc2) (fun _ => .inl rfl)).setCell ⟨nb, 5, none⟩ (.slice sa2 ssN.length sc2) (fun _ => .inl rfl))
      have T12 := (((T11.setCell ⟨rv, 0, none⟩ (.int .i64 rN.kd) (fun _ => .inr rfl)).setCell ⟨rv, 1, none⟩ (.int .i64 rN.pl) (fun _ => .inr rfl)).setCell ⟨rv, 2, none⟩ (.string rN.vl) (fun _ => .inr rfl))
      have N9 := Hd ((((((((((uh N).set 0 (.slice la2 lsN.length lc2) (by simp)).set 1 (.string (brOf oN).key) (by simp)).set 2 (.string (brOf oN).val) (by simp)).set 3 (.int .i64 (brOf oN).at_) (by simp)).set 4 (.slice ka2 kn2 kc2) (by simp)).set 5 (.slice sa2 ssN.length sc2) (by simp)).other (C := rv) 0 (.int .i64 rN.kd) (by omega)).other (C := rv) 1 (.int .i64 rN.pl) (by omega)).other (C := rv) 2 (.string rN.vl) (by omega))
      have V9 := Hd ((((((((((uh V).other (C := nb) 0 (.slice la2 lsN.length lc2) (by omega)).other (C := nb) 1 (.string (brOf oN).key) (by omega)).other (C := nb) 2 (.string (brOf oN).val) (by omega)).other (C := nb) 3 (.int .i64 (brOf oN).at_) (by omega)).other (C := nb) 4 (.slice ka2 kn2 kc2) (by omega)).other (C := nb) 5 (.slice sa2 ssN.length sc2) (by omega)).set 0 (.int .i64 rN.kd) (by simp)).set 1 (.int .i64 rN.pl) (by simp)).set 2 (.string rN.vl) (by simp))
      have hsx := (uh HBx).size
      have hk11 := fun (bq i : Nat) (v : Value) (hb9 : bq < wr.heap.size) (h : wr.cell? ⟨bq, i, none⟩ = some v) => (T11.cell (p := ⟨bq, i, none⟩) (show bq < y5.heap.size by omega) (show ¬ (bq = nb ∨ bq = rv) by omega)).trans (((uh HBx).cell (p := ⟨bq, i, none⟩) hb9).trans h)
      have hk12 := fun (bq i : Nat) (v : Value) (hb9 : bq < wr.heap.size) (h : wr.cell? ⟨bq, i, none⟩ = some v) => (T12.cell (p := ⟨bq, i, none⟩) (show bq < y5.heap.size by omega) (show ¬ (bq = nb ∨ bq = rv) by omega)).trans (((uh HBx).cell (p := ⟨bq, i, none⟩) hb9).trans h)
      have LB9 := Hd ((uh LBx).touch T12 (fun x hx => by rcases hx with e | e <;> omega))
      have B9 := Hd ((uh HBx).trans (T12.below (uh HBx).size (fun x hx e => by rcases e with e | e <;> omega)))
      refine rdy1 11 rfl (fun K hK => ?_)
      go_simp
      refine outH hK ?_ (fun hHeld => ?_)
      ·exact ⟨hk11 _ _ _ hlb x0, hk11 _ _ _ hlb x1, hk11 _ _ _ hlb x2, hk11 _ _ _ hlb x3, hk11 _ _ _ hlb x4, hk11 _ _ _ hlb x5, hk11 _ _ _ hbw d0, hk11 _ _ _ hbw d1, hk11 _ _ _ hbw d2, hk11 _ _ _ hbw d3, hk11 _ _ _ hbw d4⟩
      clear hK K
      refine rdy1 12 rfl (fun K hK => ?_)
      go_simp
      refine outH hK ?_ (fun hHeld => ?_)
      ·exact ⟨hk12 _ _ _ hlb x0, hk12 _ _ _ hlb x1, hk12 _ _ _ hlb x2, hk12 _ _ _ hlb x3, hk12 _ _ _ hlb x4, hk12 _ _ _ hlb x5, hk12 _ _ _ hbw d0, hk12 _ _ _ hbw d1, hk12 _ _ _ hbw d2, hk12 _ _ _ hbw d3, hk12 _ _ _ hbw d4⟩
      clear hK K
      refine wpAnyH_done (by kernel_rfl) (NoPanic.normal ?_) _
      clear hHeld hk11 hk12 T11 T12
      go_wp2_with fail
      go_meet
      exact ⟨nb, rv, _, _, _, rfl, rfl, Hd ⟨uh B9, hnb, hrv, uh N9, uh V9, (uh LB9).mono (fun x hx => .inl (.inl hx))⟩⟩
    ·go_simp
     have hbs := bal y0 (.cells #[.slice none 0 0, .string ⟨#[]⟩, .string ⟨#[]⟩, .int .i64 0, .slice none 0 0, .slice none 0 0] 42)
     replace LBx := Hd (((uh LBx).up.mono (T' := fun x => ((x = w.heap.size + 1 ∨ x = lb) ∨ x = y0.heap.size)) (fun x hx => hx.imp id (fun e => by omega))).below hbs)
     have N := Hd (Blk.new y0 #[.slice none 0 0, .string ⟨#[]⟩, .string ⟨#[]⟩, .int .i64 0, .slice none 0 0, .slice none 0 0] 42 y0.heap.size rfl)
     have FN := Hd (Fin.new y0 #[.slice none 0 0, .string ⟨#[]⟩, .string ⟨#[]⟩, .int .i64 0, .slice none 0 0, .slice none 0 0] 42 y0.heap.size 7 rfl (by simp))
     have hnb : wr.heap.size ≤ y0.heap.size := (uh HBx).size
     replace HBx := hbt HBx hbs
     replace FR := Hd ((uh FR).below hbs)
     replace FL := Hd ((uh FL).below hbs)
     have hbX := uh HBx
     refine outH hK ?_ (fun hHeld => ?_)
     ·exact ⟨(hbX.cell (p := ⟨lb, 0, none⟩) hlb).trans x0, (hbX.cell (p := ⟨lb, 1, none⟩) hlb).trans x1, (hbX.cell (p := ⟨lb, 2, none⟩) hlb).trans x2, (hbX.cell (p := ⟨lb, 3, none⟩) hlb).trans x3, (hbX.cell (p := ⟨lb, 4, none⟩) hlb).trans x4, (hbX.cell (p := ⟨lb, 5, none⟩) hlb).trans x5, (hbX.cell (p := ⟨b, off + k * 5, none⟩) hbw).trans d0, (hbX.cell (p := ⟨b, off + k * 5 + 1, none⟩) hbw).trans d1, (hbX.cell (p := ⟨b, off + k * 5 + 2, none⟩) hbw).trans d2, (hbX.cell (p := ⟨b, off + k * 5 + 3, none⟩) hbw).trans d3, (hbX.cell (p := ⟨b, off + k * 5 + 4, none⟩) hbw).trans d4⟩
     clear hK K
     clear hbX hbs
     generalize y0.alloc (.cells #[.slice none 0 0, .string ⟨#[]⟩, .string ⟨#[]⟩, .int .i64 0, .slice none 0 0, .slice none 0 0] 42) = y6 at *
     generalize y0.heap.size = nb at *
     refine rdy2 5 10 rfl rfl (fun K hK => ?_) (fun K hK => ?_)
     ·go_simp
      refine (uh HCA _ y6 (uh LBx)).mono ?_
      rintro e y7 ⟨lv2, kv2, sv2, rfl, hs2, hb2, he2, hbs, fl2, fs2⟩
      dsimp only at hs2 hb2 he2
      replace LBx := Hd ((uh LBx).next (y := ⟨lsN, oN, ssN⟩) hs2 (hb2.mono (fun _ _ => trivial)) he2 fl2 fs2 (fun k hk => by rcases hk with (rfl | rfl) | rfl; exact ⟨(uh FR).1, (uh FR).below hbs⟩; exact ⟨(uh FL).1, (uh FL).below hbs⟩; exact ⟨(uh FN).1, (uh FN).below hbs⟩))
      obtain ⟨la2, lc2, ka2, kn2, kc2, sa2, sc2, rfl, rfl, rfl⟩ := (uh LBx).shape
      dsimp only
      clear hs2 hb2 he2 fl2 fs2
      replace HBx := hbt HBx hbs
      replace FR := Hd ((uh FR).below hbs)
      replace FL := Hd ((uh FL).below hbs)
      replace N := Hd ((uh N).below hbs)
      replace FN := Hd ((uh FN).below hbs)
      have hbX := uh HBx
      go_wp2_with fail
      refine outH hK ?_ (fun hHeld => ?_)
      ·exact ⟨(hbX.cell (p := ⟨lb, 0, none⟩) hlb).trans x0, (hbX.cell (p := ⟨lb, 1, none⟩) hlb).trans x1, (hbX.cell (p := ⟨lb, 2, none⟩) hlb).trans x2, (hbX.cell (p := ⟨lb, 3, none⟩) hlb).trans x3, (hbX.cell (p := ⟨lb, 4, none⟩) hlb).trans x4, (hbX.cell (p := ⟨lb, 5, none⟩) hlb).trans x5, (hbX.cell (p := ⟨b, off + k * 5, none⟩) hbw).trans d0, (hbX.cell (p := ⟨b, off + k * 5 + 1, none⟩) hbw).trans d1, (hbX.cell (p := ⟨b, off + k * 5 + 2, none⟩) hbw).trans d2, (hbX.cell (p := ⟨b, off + k * 5 + 3, none⟩) hbw).trans d3, (hbX.cell (p := ⟨b, off + k * 5 + 4, none⟩) hbw).trans d4⟩
      clear hK K
      clear hbX hbs
      refine tkH 6 rfl ?_
      refine tkH 7 rfl ?_
      refine tkH 8 rfl ?_
      refine rdy1 10 rfl (fun K hK => ?_)
      go_simp
      have hbs := bal y7 (.cells #[.int .i64 0, .int .i64 0, .string ⟨#[]⟩] 27)
      replace LBx := Hd (((uh LBx).up.mono (T' := fun x => (((x = w.heap.size + 1 ∨ x = lb) ∨ x = nb) ∨ x = y7.heap.size)) (fun x hx => hx.imp id (fun e => by omega))).below hbs)
      have V := Hd (Blk.new y7 #[.int .i64 0, .int .i64 0, .string ⟨#[]⟩] 27 y7.heap.size rfl)
      have FV := Hd (Fin.new y7 #[.int .i64 0, .int .i64 0, .string ⟨#[]⟩] 27 y7.heap.size 7 rfl (by simp))
      have hrv : wr.heap.size ≤ y7.heap.size := (uh HBx).size
      have hne : nb ≠ y7.heap.size := by have := (uh N).1; omega
      replace HBx := hbt HBx hbs
      replace FR := Hd ((uh FR).below hbs)
      replace FL := Hd ((uh FL).below hbs)
      replace N := Hd ((uh N).below hbs)
      replace FN := Hd ((uh FN).below hbs)
      have hbX := uh HBx
      refine outH hK ?_ (fun hHeld => ?_)
      ·exact ⟨(hbX.cell (p := ⟨lb, 0, none⟩) hlb).trans x0, (hbX.cell (p := ⟨lb, 1, none⟩) hlb).trans x1, (hbX.cell (p := ⟨lb, 2, none⟩) hlb).trans x2, (hbX.cell (p := ⟨lb, 3, none⟩) hlb).trans x3, (hbX.cell (p := ⟨lb, 4, none⟩) hlb).trans x4, (hbX.cell (p := ⟨lb, 5, none⟩) hlb).trans x5, (hbX.cell (p := ⟨b, off + k * 5, none⟩) hbw).trans d0, (hbX.cell (p := ⟨b, off + k * 5 + 1, none⟩) hbw).trans d1, (hbX.cell (p := ⟨b, off + k * 5 + 2, none⟩) hbw).trans d2, (hbX.cell (p := ⟨b, off + k * 5 + 3, none⟩) hbw).trans d3, (hbX.cell (p := ⟨b, off + k * 5 + 4, none⟩) hbw).trans d4⟩
      clear hK K
      clear hbX hbs
      generalize y7.alloc (.cells #[.int .i64 0, .int .i64 0, .string ⟨#[]⟩] 27) = y8 at *
      generalize y7.heap.size = rv at *
      obtain ⟨⟨n0, n1, n2, n3, n4, n5⟩, _⟩ := Blk.c6 (uh N)
      have v0 := (uh V).cell 0 rfl
      have v1 := (uh V).cell 1 rfl
      have v2 := (uh V).cell 2 rfl
      have nf0 := (uh N).fro 0
      have nf1 := (uh N).fro 1
      have nf2 := (uh N).fro 2
      have nf3 := (uh N).fro 3
      have nf4 := (uh N).fro 4
      have nf5 := (uh N).fro 5
      have vf0 := (uh V).fro 0
      have vf1 := (uh V).fro 1
      have vf2 := (uh V).fro 2
      have hne2 : nb ≠ rv := hne
      have T11 := (((((((Touch.refl (fun x => x = nb ∨ x = rv) y8).setCell ⟨nb, 0, none⟩ (.slice la2 lsN.length lc2) (fun _ => .inl rfl)).setCell ⟨nb, 1, none⟩ (.string (brOf oN).key) (fun _ => .inl rfl)).setCell ⟨nb, 2, none⟩ (.string (brOf oN).val) (fun _ => .inl rfl)).setCell ⟨nb, 3, none⟩ (.int .i64 (brOf oN).at_) (fun _ => .inl rfl)).setCell ⟨nb, 4, none⟩ (.slice ka2 kn2 kc2) (fun _ => .inl rfl)).setCell ⟨nb, 5, none⟩ (.slice sa2 ssN.length sc2) (fun _ => .inl rfl))
      have T12 := (((T11.setCell ⟨rv, 0, none⟩ (.int .i64 rN.kd) (fun _ => .inr rfl)).setCell ⟨rv, 1, none⟩ (.int .i64 rN.pl) (fun _ => .inr rfl)).setCell ⟨rv, 2, none⟩ (.string rN.vl) (fun _ => .inr rfl))
      have N9 := Hd ((((((((((uh N).set 0 (.slice la2 lsN.length lc2) (by simp)).set 1 (.string (brOf oN).key) (by simp)).set 2 (.string (brOf oN).val) (by simp)).set 3 (.int .i64 (brOf oN).at_) (by simp)).set 4 (.slice ka2 kn2 kc2) (by simp)).set 5 (.slice sa2 ssN.length sc2) (by simp)).other (C := rv) 0 (.int .i64 rN.kd) (by omega)).other (C := rv) 1 (.int .i64 rN.pl) (by omega)).other (C := rv) 2 (.string rN.vl) (by omega))
      have V9 := Hd ((((((((((uh V).other (C := nb) 0 (.slice la2 lsN.length lc2) (by omega)).other (C := nb) 1 (.string (brOf oN).key) (by omega)).other (C := nb) 2 (.string (brOf oN).val) (by omega)).other (C := nb) 3 (.int .i64 (brOf oN).at_) (by omega)).other (C := nb) 4 (.slice ka2 kn2 kc2) (by omega)).other (C := nb) 5 (.slice sa2 ssN.length sc2) (by omega)).set 0 (.int .i64 rN.kd) (by simp)).set 1 (.int .i64 rN.pl) (by simp)).set 2 (.string rN.vl) (by simp))
      have hsx := (uh HBx).size
      have hk11 := fun (bq i : Nat) (v : Value) (hb9 : bq < wr.heap.size) (h : wr.cell? ⟨bq, i, none⟩ = some v) => (T11.cell (p := ⟨bq, i, none⟩) (show bq < y8.heap.size by omega) (show ¬ (bq = nb ∨ bq = rv) by omega)).trans (((uh HBx).cell (p := ⟨bq, i, none⟩) hb9).trans h)
      have hk12 := fun (bq i : Nat) (v : Value) (hb9 : bq < wr.heap.size) (h : wr.cell? ⟨bq, i, none⟩ = some v) => (T12.cell (p := ⟨bq, i, none⟩) (show bq < y8.heap.size by omega) (show ¬ (bq = nb ∨ bq = rv) by omega)).trans (((uh HBx).cell (p := ⟨bq, i, none⟩) hb9).trans h)
      have LB9 := Hd ((uh LBx).touch T12 (fun x hx => by rcases hx with e | e <;> omega))
      have B9 := Hd ((uh HBx).trans (T12.below (uh HBx).size (fun x hx e => by rcases e with e | e <;> omega)))
      refine rdy1 11 rfl (fun K hK => ?_)
      go_simp
      refine outH hK ?_ (fun hHeld => ?_)
      ·exact ⟨hk11 _ _ _ hlb x0, hk11 _ _ _ hlb x1, hk11 _ _ _ hlb x2, hk11 _ _ _ hlb x3, hk11 _ _ _ hlb x4, hk11 _ _ _ hlb x5, hk11 _ _ _ hbw d0, hk11 _ _ _ hbw d1, hk11 _ _ _ hbw d2, hk11 _ _ _ hbw d3, hk11 _ _ _ hbw d4⟩
      clear hK K
      refine rdy1 12 rfl (fun K hK => ?_)
      go_simp
      refine outH hK ?_ (fun hHeld => ?_)
      ·exact ⟨hk12 _ _ _ hlb x0, hk12 _ _ _ hlb x1, hk12 _ _ _ hlb x2, hk12 _ _ _ hlb x3, hk12 _ _ _ hlb x4, hk12 _ _ _ hlb x5, hk12 _ _ _ hbw d0, hk12 _ _ _ hbw d1, hk12 _ _ _ hbw d2, hk12 _ _ _ hbw d3, hk12 _ _ _ hbw d4⟩
      clear hK K
      refine wpAnyH_done (by kernel_rfl) (NoPanic.normal ?_) _
      clear hHeld hk11 hk12 T11 T12
      go_wp2_with fail
      go_meet
      exact ⟨nb, rv, _, _, _, rfl, rfl, Hd ⟨uh B9, hnb, hrv, uh N9, uh V9, (uh LB9).mono (fun x hx => .inl (.inl hx))⟩⟩
     ·go_simp
      have hbs := bal y6 (.cells #[.int .i64 0, .int .i64 0, .string ⟨#[]⟩] 27)
      replace LBx := Hd (((uh LBx).up.mono (T' := fun x => (((x = w.heap.size + 1 ∨ x = lb) ∨ x = nb) ∨ x = y6.heap.size)) (fun x hx => hx.imp id (fun e => by omega))).below hbs)
      have V := Hd (Blk.new y6 #[.int .i64 0, .int .i64 0, .string ⟨#[]⟩] 27 y6.heap.size rfl)
      have FV := Hd (Fin.new y6 #[.int .i64 0, .int .i64 0, .string ⟨#[]⟩] 27 y6.heap.size 7 rfl (by simp))
      have hrv : wr.heap.size ≤ y6.heap.size := (uh HBx).size
      have hne : nb ≠ y6.heap.size := by have := (uh N).1; omega
      replace HBx := hbt HBx hbs
      replace FR := Hd ((uh FR).below hbs)
      replace FL := Hd ((uh FL).below hbs)
      replace N := Hd ((uh N).below hbs)
      replace FN := Hd ((uh FN).below hbs)
      have hbX := uh HBx
      refine outH hK ?_ (fun hHeld => ?_)
      ·exact ⟨(hbX.cell (p := ⟨lb, 0, none⟩) hlb).trans x0, (hbX.cell (p := ⟨lb, 1, none⟩) hlb).trans x1, (hbX.cell (p := ⟨lb, 2, none⟩) hlb).trans x2, (hbX.cell (p := ⟨lb, 3, none⟩) hlb).trans x3, (hbX.cell (p := ⟨lb, 4, none⟩) hlb).trans x4, (hbX.cell (p := ⟨lb, 5, none⟩) hlb).trans x5, (hbX.cell (p := ⟨b, off + k * 5, none⟩) hbw).trans d0, (hbX.cell (p := ⟨b, off + k * 5 + 1, none⟩) hbw).trans d1, (hbX.cell (p := ⟨b, off + k * 5 + 2, none⟩) hbw).trans d2, (hbX.cell (p := ⟨b, off + k * 5 + 3, none⟩) hbw).trans d3, (hbX.cell (p := ⟨b, off + k * 5 + 4, none⟩) hbw).trans d4⟩
      clear hK K
      clear hbX hbs
      generalize y6.alloc (.cells #[.int .i64 0, .int .i64 0, .string ⟨#[]⟩] 27) = y9 at *
      generalize y6.heap.size = rv at *
      refine rdy1 5 rfl (fun K hK => ?_)
      go_simp
      refine (uh HCA _ y9 (uh LBx)).mono ?_
      rintro e y10 ⟨lv2, kv2, sv2, rfl, hs2, hb2, he2, hbs, fl2, fs2⟩
      dsimp only at hs2 hb2 he2
      replace LBx := Hd ((uh LBx).next (y := ⟨lsN, oN, ssN⟩) hs2 (hb2.mono (fun _ _ => trivial)) he2 fl2 fs2 (fun k hk => by rcases hk with ((rfl | rfl) | rfl) | rfl; exact ⟨(uh FR).1, (uh FR).below hbs⟩; exact ⟨(uh FL).1, (uh FL).below hbs⟩; exact ⟨(uh FN).1, (uh FN).below hbs⟩; exact ⟨(uh FV).1, (uh FV).below hbs⟩))
      obtain ⟨la2, lc2, ka2, kn2, kc2, sa2, sc2, rfl, rfl, rfl⟩ := (uh LBx).shape
      dsimp only
      clear hs2 hb2 he2 fl2 fs2
      replace HBx := hbt HBx hbs
      replace FR := Hd ((uh FR).below hbs)
      replace FL := Hd ((uh FL).below hbs)
      replace N := Hd ((uh N).below hbs)
      replace FN := Hd ((uh FN).below hbs)
      replace V := Hd ((uh V).below hbs)
      replace FV := Hd ((uh FV).below hbs)
      have hbX := uh HBx
      go_wp2_with fail
      refine outH hK ?_ (fun hHeld => ?_)
      ·exact ⟨(hbX.cell (p := ⟨lb, 0, none⟩) hlb).trans x0, (hbX.cell (p := ⟨lb, 1, none⟩) hlb).trans x1, (hbX.cell (p := ⟨lb, 2, none⟩) hlb).trans x2, (hbX.cell (p := ⟨lb, 3, none⟩) hlb).trans x3, (hbX.cell (p := ⟨lb, 4, none⟩) hlb).trans x4, (hbX.cell (p := ⟨lb, 5, none⟩) hlb).trans x5, (hbX.cell (p := ⟨b, off + k * 5, none⟩) hbw).trans d0, (hbX.cell (p := ⟨b, off + k * 5 + 1, none⟩) hbw).trans d1, (hbX.cell (p := ⟨b, off + k * 5 + 2, none⟩) hbw).trans d2, (hbX.cell (p := ⟨b, off + k * 5 + 3, none⟩) hbw).trans d3, (hbX.cell (p := ⟨b, off + k * 5 + 4, none⟩) hbw).trans d4⟩
      clear hK K
      clear hbX hbs
      refine tkH 6 rfl ?_
      refine tkH 7 rfl ?_
      refine tkH 8 rfl ?_
      obtain ⟨⟨n0, n1, n2, n3, n4, n5⟩, _⟩ := Blk.c6 (uh N)
      have v0 := (uh V).cell 0 rfl
      have v1 := (uh V).cell 1 rfl
      have v2 := (uh V).cell 2 rfl
      have nf0 := (uh N).fro 0
      have nf1 := (uh N).fro 1
      have nf2 := (uh N).fro 2
      have nf3 := (uh N).fro 3
      have nf4 := (uh N).fro 4
      have nf5 := (uh N).fro 5
      have vf0 := (uh V).fro 0
      have vf1 := (uh V).fro 1
      have vf2 := (uh V).fro 2
      have hne2 : nb ≠ rv := hne
      have T11 := (((((((Touch.refl (fun x => x = nb ∨ x = rv) y10).setCell ⟨nb, 0, none⟩ (.slice la2 lsN.length lc2) (fun _ => .inl rfl)).setCell ⟨nb, 1, none⟩ (.string (brOf oN).key) (fun _ => .inl rfl)).setCell ⟨nb, 2, none⟩ (.string (brOf oN).val) (fun _ => .inl rfl)).setCell ⟨nb, 3, none⟩ (.int .i64 (brOf oN).at_) (fun _ => .inl rfl)).setCell ⟨nb, 4, none⟩ (.slice ka2 kn2 kc2) (fun _ => .inl rfl)).setCell ⟨nb, 5, none⟩ (.slice sa2 ssN.length sc2) (fun _ => .inl rfl))
      have T12 := (((T11.setCell ⟨rv, 0, none⟩ (.int .i64 rN.kd) (fun _ => .inr rfl)).setCell ⟨rv, 1, none⟩ (.int .i64 rN.pl) (fun _ => .inr rfl)).setCell ⟨rv, 2, none⟩ (.string rN.vl) (fun _ => .inr rfl))
      have N9 := Hd ((((((((((uh N).set 0 (.slice la2 lsN.length lc2) (by simp)).set 1 (.string (brOf oN).key) (by simp)).set 2 (.string (brOf oN).val) (by simp)).set 3 (.int .i64 (brOf oN).at_) (by simp)).set 4 (.slice ka2 kn2 kc2) (by simp)).set 5 (.slice sa2 ssN.length sc2) (by simp)).other (C := rv) 0 (.int .i64 rN.kd) (by omega)).other (C := rv) 1 (.int .i64 rN.pl) (by omega)).other (C := rv) 2 (.string rN.vl) (by omega))
      have V9 := Hd ((((((((((uh V).other (C := nb) 0 (.slice la2 lsN.length lc2) (by omega)).other (C := nb) 1 (.string (brOf oN).key) (by omega)).other (C := nb) 2 (.string (brOf oN).val) (by omega)).other (C := nb) 3 (.int .i64 (brOf oN).at_) (by omega)).other (C := nb) 4 (.slice ka2 kn2 kc2) (by omega)).other (C := nb) 5 (.slice sa2 ssN.length sc2) (by omega)).set 0 (.int .i64 rN.kd) (by simp)).set 1 (.int .i64 rN.pl) (by simp)).set 2 (.string rN.vl) (by simp))
      have hsx := (uh HBx).size
      have hk11 := fun (bq i : Nat) (v : Value) (hb9 : bq < wr.heap.size) (h : wr.cell? ⟨bq, i, none⟩ = some v) => (T11.cell (p := ⟨bq, i, none⟩) (show bq < y10.heap.size by omega) (show ¬ (bq = nb ∨ bq = rv) by omega)).trans (((uh HBx).cell (p := ⟨bq, i, none⟩) hb9).trans h)
      have hk12 := fun (bq i : Nat) (v : Value) (hb9 : bq < wr.heap.size) (h : wr.cell? ⟨bq, i, none⟩ = some v) => (T12.cell (p := ⟨bq, i, none⟩) (show bq < y10.heap.size by omega) (show ¬ (bq = nb ∨ bq = rv) by omega)).trans (((uh HBx).cell (p := ⟨bq, i, none⟩) hb9).trans h)
      have LB9 := Hd ((uh LBx).touch T12 (fun x hx => by rcases hx with e | e <;> omega))
      have B9 := Hd ((uh HBx).trans (T12.below (uh HBx).size (fun x hx e => by rcases e with e | e <;> omega)))
      refine rdy1 11 rfl (fun K hK => ?_)
      go_simp
      refine outH hK ?_ (fun hHeld => ?_)
      ·exact ⟨hk11 _ _ _ hlb x0, hk11 _ _ _ hlb x1, hk11 _ _ _ hlb x2, hk11 _ _ _ hlb x3, hk11 _ _ _ hlb x4, hk11 _ _ _ hlb x5, hk11 _ _ _ hbw d0, hk11 _ _ _ hbw d1, hk11 _ _ _ hbw d2, hk11 _ _ _ hbw d3, hk11 _ _ _ hbw d4⟩
      clear hK K
      refine rdy1 12 rfl (fun K hK => ?_)
      go_simp
      refine outH hK ?_ (fun hHeld => ?_)
      ·exact ⟨hk12 _ _ _ hlb x0, hk12 _ _ _ hlb x1, hk12 _ _ _ hlb x2, hk12 _ _ _ hlb x3, hk12 _ _ _ hlb x4, hk12 _ _ _ hlb x5, hk12 _ _ _ hbw d0, hk12 _ _ _ hbw d1, hk12 _ _ _ hbw d2, hk12 _ _ _ hbw d3, hk12 _ _ _ hbw d4⟩
      clear hK K
      refine wpAnyH_done (by kernel_rfl) (NoPanic.normal ?_) _
      clear hHeld hk11 hk12 T11 T12
      go_wp2_with fail
      go_meet
      exact ⟨nb, rv, _, _, _, rfl, rfl, Hd ⟨uh B9, hnb, hrv, uh N9, uh V9, (uh LB9).mono (fun x hx => .inl (.inl hx))⟩⟩
    ·go_simp
     have hbs := bal y0 (.cells #[.int .i64 0, .int .i64 0, .string ⟨#[]⟩] 27)
     replace LBx := Hd (((uh LBx).up.mono (T' := fun x => ((x = w.heap.size + 1 ∨ x = lb) ∨ x = y0.heap.size)) (fun x hx => hx.imp id (fun e => by omega))).below hbs)
     have V := Hd (Blk.new y0 #[.int .i64 0, .int .i64 0, .string ⟨#[]⟩] 27 y0.heap.size rfl)
     have FV := Hd (Fin.new y0 #[.int .i64 0, .int .i64 0, .string ⟨#[]⟩] 27 y0.heap.size 7 rfl (by simp))
     have hrv : wr.heap.size ≤ y0.heap.size := (uh HBx).size
     replace HBx := hbt HBx hbs
     replace FR := Hd ((uh FR).below hbs)
     replace FL := Hd ((uh FL).below hbs)
     have hbX := uh HBx
     refine outH hK ?_ (fun hHeld => ?_)
     ·exact ⟨(hbX.cell (p := ⟨lb, 0, none⟩) hlb).trans x0, (hbX.cell (p := ⟨lb, 1, none⟩) hlb).trans x1, (hbX.cell (p := ⟨lb, 2, none⟩) hlb).trans x2, (hbX.cell (p := ⟨lb, 3, none⟩) hlb).trans x3, (hbX.cell (p := ⟨lb, 4, none⟩) hlb).trans x4, (hbX.cell (p := ⟨lb, 5, none⟩) hlb).trans x5, (hbX.cell (p := ⟨b, off + k * 5, none⟩) hbw).trans d0, (hbX.cell (p := ⟨b, off + k * 5 + 1, none⟩) hbw).trans d1, (hbX.cell (p := ⟨b, off + k * 5 + 2, none⟩) hbw).trans d2, (hbX.cell (p := ⟨b, off + k * 5 + 3, none⟩) hbw).trans d3, (hbX.cell (p := ⟨b, off + k * 5 + 4, none⟩) hbw).trans d4⟩
     clear hK K
     clear hbX hbs
     generalize y0.alloc (.cells #[.int .i64 0, .int .i64 0, .string ⟨#[]⟩] 27) = y11 at *
     generalize y0.heap.size = rv at *
     refine rdy2 5 9 rfl rfl (fun K hK => ?_) (fun K hK => ?_)
     ·go_simp
      refine (uh HCA _ y11 (uh LBx)).mono ?_
      rintro e y12 ⟨lv2, kv2, sv2, rfl, hs2, hb2, he2, hbs, fl2, fs2⟩
      dsimp only at hs2 hb2 he2
      replace LBx := Hd ((uh LBx).next (y := ⟨lsN, oN, ssN⟩) hs2 (hb2.mono (fun _ _ => trivial)) he2 fl2 fs2 (fun k hk => by rcases hk with (rfl | rfl) | rfl; exact ⟨(uh FR).1, (uh FR).below hbs⟩; exact ⟨(uh FL).1, (uh FL).below hbs⟩; exact ⟨(uh FV).1, (uh FV).below hbs⟩))
      obtain ⟨la2, lc2, ka2, kn2, kc2, sa2, sc2, rfl, rfl, rfl⟩ := (uh LBx).shape
      dsimp only
      clear hs2 hb2 he2 fl2 fs2
      replace HBx := hbt HBx hbs
      replace FR := Hd ((uh FR).below hbs)
      replace FL := Hd ((uh FL).below hbs)
      replace V := Hd ((uh V).below hbs)
      replace FV := Hd ((uh FV).below hbs)
      have hbX := uh HBx
      go_wp2_with fail
      refine outH hK ?_ (fun hHeld => ?_)
      ·exact ⟨(hbX.cell (p := ⟨lb, 0, none⟩) hlb).trans x0, (hbX.cell (p := ⟨lb, 1, none⟩) hlb).trans x1, (hbX.cell (p := ⟨lb, 2, none⟩) hlb).trans x2, (hbX.cell (p := ⟨lb, 3, none⟩) hlb).trans x3, (hbX.cell (p := ⟨lb, 4, none⟩) hlb).trans x4, (hbX.cell (p := ⟨lb, 5, none⟩) hlb).trans x5, (hbX.cell (p := ⟨b, off + k * 5, none⟩) hbw).trans d0, (hbX.cell (p := ⟨b, off + k * 5 + 1, none⟩) hbw).trans d1, (hbX.cell (p := ⟨b, off + k * 5 + 2, none⟩) hbw).trans d2, (hbX.cell (p := ⟨b, off + k * 5 + 3, none⟩) hbw).trans d3, (hbX.cell (p := ⟨b, off + k * 5 + 4, none⟩) hbw).trans d4⟩
      clear hK K
      clear hbX hbs
      refine tkH 6 rfl ?_
      refine tkH 7 rfl ?_
      refine tkH 8 rfl ?_
      refine rdy1 9 rfl (fun K hK => ?_)
      go_simp
      have hbs := bal y12 (.cells #[.slice none 0 0, .string ⟨#[]⟩, .string ⟨#[]⟩, .int .i64 0, .slice none 0 0, .slice none 0 0] 42)
      replace LBx := Hd (((uh LBx).up.mono (T' := fun x => (((x = w.heap.size + 1 ∨ x = lb) ∨ x = rv) ∨ x = y12.heap.size)) (fun x hx => hx.imp id (fun e => by omega))).below hbs)
      have N := Hd (Blk.new y12 #[.slice none 0 0, .string ⟨#[]⟩, .string ⟨#[]⟩, .int .i64 0, .slice none 0 0, .slice none 0 0] 42 y12.heap.size rfl)
      have FN := Hd (Fin.new y12 #[.slice none 0 0, .string ⟨#[]⟩, .string ⟨#[]⟩, .int .i64 0, .slice none 0 0, .slice none 0 0] 42 y12.heap.size 7 rfl (by simp))
      have hnb : wr.heap.size ≤ y12.heap.size := (uh HBx).size
      have hne : rv ≠ y12.heap.size := by have := (uh V).1; omega
      replace HBx := hbt HBx hbs
      replace FR := Hd ((uh FR).below hbs)
      replace FL := Hd ((uh FL).below hbs)
      replace V := Hd ((uh V).below hbs)
      replace FV := Hd ((uh FV).below hbs)
      have hbX := uh HBx
      refine outH hK ?_ (fun hHeld => ?_)
      ·exact ⟨(hbX.cell (p := ⟨lb, 0, none⟩) hlb).trans x0, (hbX.cell (p := ⟨lb, 1, none⟩) hlb).trans x1, (hbX.cell (p := ⟨lb, 2, none⟩) hlb).trans x2, (hbX.cell (p := ⟨lb, 3, none⟩) hlb).trans x3, (hbX.cell (p := ⟨lb, 4, none⟩) hlb).trans x4, (hbX.cell (p := ⟨lb, 5, none⟩) hlb).trans x5, (hbX.cell (p := ⟨b, off + k * 5, none⟩) hbw).trans d0, (hbX.cell (p := ⟨b, off + k * 5 + 1, none⟩) hbw).trans d1, (hbX.cell (p := ⟨b, off + k * 5 + 2, none⟩) hbw).trans d2, (hbX.cell (p := ⟨b, off + k * 5 + 3, none⟩) hbw).trans d3, (hbX.cell (p := ⟨b, off + k * 5 + 4, none⟩) hbw).trans d4⟩
      clear hK K
      clear hbX hbs
      generalize y12.alloc (.cells #[.slice none 0 0, .string ⟨#[]⟩, .string ⟨#[]⟩, .int .i64 0, .slice none 0 0, .slice none 0 0] 42) = y13 at *
      generalize y12.heap.size = nb at *
      obtain ⟨⟨n0, n1, n2, n3, n4, n5⟩, _⟩ := Blk.c6 (uh N)
      have v0 := (uh V).cell 0 rfl
      have v1 := (uh V).cell 1 rfl
      have v2 := (uh V).cell 2 rfl
      have nf0 := (uh N).fro 0
      have nf1 := (uh N).fro 1
      have nf2 := (uh N).fro 2
      have nf3 := (uh N).fro 3
      have nf4 := (uh N).fro 4
      have nf5 := (uh N).fro 5
      have vf0 := (uh V).fro 0
      have vf1 := (uh V).fro 1
      have vf2 := (uh V).fro 2
      have hne2 : nb ≠ rv := fun e => hne e.symm
      have T11 := (((((((Touch.refl (fun x => x = nb ∨ x = rv) y13).setCell ⟨nb, 0, none⟩ (.slice la2 lsN.length lc2) (fun _ => .inl rfl)).setCell ⟨nb, 1, none⟩ (.string (brOf oN).key) (fun _ => .inl rfl)).setCell ⟨nb, 2, none⟩ (.string (brOf oN).val) (fun _ => .inl rfl)).setCell ⟨nb, 3, none⟩ (.int .i64 (brOf oN).at_) (fun _ => .inl rfl)).setCell ⟨nb, 4, none⟩ (.slice ka2 kn2 kc2) (fun _ => .inl rfl)).setCell ⟨nb, 5, none⟩ (.slice sa2 ssN.length sc2) (fun _ => .inl rfl))
      have T12 := (((T11.setCell ⟨rv, 0, none⟩ (.int .i64 rN.kd) (fun _ => .inr rfl)).setCell ⟨rv, 1, none⟩ (.int .i64 rN.pl) (fun _ => .inr rfl)).setCell ⟨rv, 2, none⟩ (.string rN.vl) (fun _ => .inr rfl))
      have N9 := Hd ((((((((((uh N).set 0 (.slice la2 lsN.length lc2) (by simp)).set 1 (.string (brOf oN).key) (by simp)).set 2 (.string (brOf oN).val) (by simp)).set 3 (.int .i64 (brOf oN).at_) (by simp)).set 4 (.slice ka2 kn2 kc2) (by simp)).set 5 (.slice sa2 ssN.length sc2) (by simp)).other (C := rv) 0 (.int .i64 rN.kd) (by omega)).other (C := rv) 1 (.int .i64 rN.pl) (by omega)).other (C := rv) 2 (.string rN.vl) (by omega))
      have V9 := Hd ((((((((((uh V).other (C := nb) 0 (.slice la2 lsN.length lc2) (by omega)).other (C := nb) 1 (.string (brOf oN).key) (by omega)).other (C := nb) 2 (.string (brOf oN).val) (by omega)).other (C := nb) 3 (.int .i64 (brOf oN).at_) (by omega)).other (C := nb) 4 (.slice ka2 kn2 kc2) (by omega)).other (C := nb) 5 (.slice sa2 ssN.length sc2) (by omega)).set 0 (.int .i64 rN.kd) (by simp)).set 1 (.int .i64 rN.pl) (by simp)).set 2 (.string rN.vl) (by simp))
      have hsx := (uh HBx).size
      have hk11 := fun (bq i : Nat) (v : Value) (hb9 : bq < wr.heap.size) (h : wr.cell? ⟨bq, i, none⟩ = some v) => (T11.cell (p := ⟨bq, i, none⟩) (show bq < y13.heap.size by omega) (show ¬ (bq = nb ∨ bq = rv) by omega)).trans (((uh HBx).cell (p := ⟨bq, i, none⟩) hb9).trans h)
      have hk12 := fun (bq i : Nat) (v : Value) (hb9 : bq < wr.heap.size) (h : wr.cell? ⟨bq, i, none⟩ = some v) => (T12.cell (p := ⟨bq, i, none⟩) (show bq < y13.heap.size by omega) (show ¬ (bq = nb ∨ bq = rv) by omega)).trans (((uh HBx).cell (p := ⟨bq, i, none⟩) hb9).trans h)
      have LB9 := Hd ((uh LBx).touch T12 (fun x hx => by rcases hx with e | e <;> omega))
      have B9 := Hd ((uh HBx).trans (T12.below (uh HBx).size (fun x hx e => by rcases e with e | e <;> omega)))
      refine rdy1 11 rfl (fun K hK => ?_)
      go_simp
      refine outH hK ?_ (fun hHeld => ?_)
      ·exact ⟨hk11 _ _ _ hlb x0, hk11 _ _ _ hlb x1, hk11 _ _ _ hlb x2, hk11 _ _ _ hlb x3, hk11 _ _ _ hlb x4, hk11 _ _ _ hlb x5, hk11 _ _ _ hbw d0, hk11 _ _ _ hbw d1, hk11 _ _ _ hbw d2, hk11 _ _ _ hbw d3, hk11 _ _ _ hbw d4⟩
      clear hK K
      refine rdy1 12 rfl (fun K hK => ?_)
      go_simp
      refine outH hK ?_ (fun hHeld => ?_)
      ·exact ⟨hk12 _ _ _ hlb x0, hk12 _ _ _ hlb x1, hk12 _ _ _ hlb x2, hk12 _ _ _ hlb x3, hk12 _ _ _ hlb x4, hk12 _ _ _ hlb x5, hk12 _ _ _ hbw d0, hk12 _ _ _ hbw d1, hk12 _ _ _ hbw d2, hk12 _ _ _ hbw d3, hk12 _ _ _ hbw d4⟩
      clear hK K
      refine wpAnyH_done (by kernel_rfl) (NoPanic.normal ?_) _
      clear hHeld hk11 hk12 T11 T12
      go_wp2_with fail
      go_meet
      exact ⟨nb, rv, _, _, _, rfl, rfl, Hd ⟨uh B9, hnb, hrv, uh N9, uh V9, (uh LB9).mono (fun x hx => .inl (.inl hx))⟩⟩
     ·go_simp
      have hbs := bal y11 (.cells #[.slice none 0 0, .string ⟨#[]⟩, .string ⟨#[]⟩, .int .i64 0, .slice none 0 0, .slice none 0 0] 42)
      replace LBx := Hd (((uh LBx).up.mono (T' := fun x => (((x = w.heap.size + 1 ∨ x = lb) ∨ x = rv) ∨ x = y11.heap.size)) (fun x hx => hx.imp id (fun e => by omega))).below hbs)
      have N := Hd (Blk.new y11 #[.slice none 0 0, .string ⟨#[]⟩, .string ⟨#[]⟩, .int .i64 0, .slice none 0 0, .slice none 0 0] 42 y11.heap.size rfl)
      have FN := Hd (Fin.new y11 #[.slice none 0 0, .string ⟨#[]⟩, .string ⟨#[]⟩, .int .i64 0, .slice none 0 0, .slice none 0 0] 42 y11.heap.size 7 rfl (by simp))
      have hnb : wr.heap.size ≤ y11.heap.size := (uh HBx).size
      have hne : rv ≠ y11.heap.size := by have := (uh V).1; omega
      replace HBx := hbt HBx hbs
      replace FR := Hd ((uh FR).below hbs)
      replace FL := Hd ((uh FL).below hbs)
      replace V := Hd ((uh V).below hbs)
      replace FV := Hd ((uh FV).below hbs)
      have hbX := uh HBx
      refine outH hK ?_ (fun hHeld => ?_)
      ·exact ⟨(hbX.cell (p := ⟨lb, 0, none⟩) hlb).trans x0, (hbX.cell (p := ⟨lb, 1, none⟩) hlb).trans x1, (hbX.cell (p := ⟨lb, 2, none⟩) hlb).trans x2, (hbX.cell (p := ⟨lb, 3, none⟩) hlb).trans x3, (hbX.cell (p := ⟨lb, 4, none⟩) hlb).trans x4, (hbX.cell (p := ⟨lb, 5, none⟩) hlb).trans x5, (hbX.cell (p := ⟨b, off + k * 5, none⟩) hbw).trans d0, (hbX.cell (p := ⟨b, off + k * 5 + 1, none⟩) hbw).trans d1, (hbX.cell (p := ⟨b, off + k * 5 + 2, none⟩) hbw).trans d2, (hbX.cell (p := ⟨b, off + k * 5 + 3, none⟩) hbw).trans d3, (hbX.cell (p := ⟨b, off + k * 5 + 4, none⟩) hbw).trans d4⟩
      clear hK K
      clear hbX hbs
      generalize y11.alloc (.cells #[.slice none 0 0, .string ⟨#[]⟩, .string ⟨#[]⟩, .int .i64 0, .slice none 0 0, .slice none 0 0] 42) = y14 at *
      generalize y11.heap.size = nb at *
      refine rdy1 5 rfl (fun K hK => ?_)
      go_simp
      refine (uh HCA _ y14 (uh LBx)).mono ?_
      rintro e y15 ⟨lv2, kv2, sv2, rfl, hs2, hb2, he2, hbs, fl2, fs2⟩
      dsimp only at hs2 hb2 he2
      replace LBx := Hd ((uh LBx).next (y := ⟨lsN, oN, ssN⟩) hs2 (hb2.mono (fun _ _ => trivial)) he2 fl2 fs2 (fun k hk => by rcases hk with ((rfl | rfl) | rfl) | rfl; exact ⟨(uh FR).1, (uh FR).below hbs⟩; exact ⟨(uh FL).1, (uh FL).below hbs⟩; exact ⟨(uh FV).1, (uh FV).below hbs⟩; exact ⟨(uh FN).1, (uh FN).below hbs⟩))
      obtain ⟨la2, lc2, ka2, kn2, kc2, sa2, sc2, rfl, rfl, rfl⟩ := (uh LBx).shape
      dsimp only
      clear hs2 hb2 he2 fl2 fs2
      replace HBx := hbt HBx hbs
      replace FR := Hd ((uh FR).below hbs)
      replace FL := Hd ((uh FL).below hbs)
      replace V := Hd ((uh V).below hbs)
      replace FV := Hd ((uh FV).below hbs)
      replace N := Hd ((uh N).below hbs)
      replace FN := Hd ((uh FN).below hbs)
      have hbX := uh HBx
      go_wp2_with fail
      refine outH hK ?_ (fun hHeld => ?_)
      ·exact ⟨(hbX.cell (p := ⟨lb, 0, none⟩) hlb).trans x0, (hbX.cell (p := ⟨lb, 1, none⟩) hlb).trans x1, (hbX.cell (p := ⟨lb, 2, none⟩) hlb).trans x2, (hbX.cell (p := ⟨lb, 3, none⟩) hlb).trans x3, (hbX.cell (p := ⟨lb, 4, none⟩) hlb).trans x4, (hbX.cell (p := ⟨lb, 5, none⟩) hlb).trans x5, (hbX.cell (p := ⟨b, off + k * 5, none⟩) hbw).trans d0, (hbX.cell (p := ⟨b, off + k * 5 + 1, none⟩) hbw).trans d1, (hbX.cell (p := ⟨b, off + k * 5 + 2, none⟩) hbw).trans d2, (hbX.cell (p := ⟨b, off + k * 5 + 3, none⟩) hbw).trans d3, (hbX.cell (p := ⟨b, off + k * 5 + 4, none⟩) hbw).trans d4⟩
      clear hK K
      clear hbX hbs
      refine tkH 6 rfl ?_
      refine tkH 7 rfl ?_
      refine tkH 8 rfl ?_
      obtain ⟨⟨n0, n1, n2, n3, n4, n5⟩, _⟩ := Blk.c6 (uh N)
      have v0 := (uh V).cell 0 rfl
      have v1 := (uh V).cell 1 rfl
      have v2 := (uh V).cell 2 rfl
      have nf0 := (uh N).fro 0
      have nf1 := (uh N).fro 1
      have nf2 := (uh N).fro 2
      have nf3 := (uh N).fro 3
      have nf4 := (uh N).fro 4
      have nf5 := (uh N).fro 5
      have vf0 := (uh V).fro 0
      have vf1 := (uh V).fro 1
      have vf2 := (uh V).fro 2
      have hne2 : nb ≠ rv := fun e => hne e.symm
      have T11 := (((((((Touch.refl (fun x => x = nb ∨ x = rv) y15).setCell ⟨nb, 0, none⟩ (.slice la2 lsN.length lc2) (fun _ => .inl rfl)).setCell ⟨nb, 1, none⟩ (.string (brOf oN).key) (fun _ => .inl rfl)).setCell ⟨nb, 2, none⟩ (.string (brOf oN).val) (fun _ => .inl rfl)).setCell ⟨nb, 3, none⟩ (.int .i64 (brOf oN).at_) (fun _ => .inl rfl)).setCell ⟨nb, 4, none⟩ (.slice ka2 kn2 kc2) (fun _ => .inl rfl)).setCell ⟨nb, 5, none⟩ (.slice sa2 ssN.length sc2) (fun _ => .inl rfl))
      have T12 := (((T11.setCell ⟨rv, 0, none⟩ (.int .i64 rN.kd) (fun _ => .inr rfl)).setCell ⟨rv, 1, none⟩ (.int .i64 rN.pl) (fun _ => .inr rfl)).setCell ⟨rv, 2, none⟩ (.string rN.vl) (fun _ => .inr rfl))
      have N9 := Hd ((((((((((uh N).set 0 (.slice la2 lsN.length lc2) (by simp)).set 1 (.string (brOf oN).key) (by simp)).set 2 (.string (brOf oN).val) (by simp)).set 3 (.int .i64 (brOf oN).at_) (by simp)).set 4 (.slice ka2 kn2 kc2) (by simp)).set 5 (.slice sa2 ssN.length sc2) (by simp)).other (C := rv) 0 (.int .i64 rN.kd) (by omega)).other (C := rv) 1 (.int .i64 rN.pl) (by omega)).other (C := rv) 2 (.string rN.vl) (by omega))
      have V9 := Hd ((((((((((uh V).other (C := nb) 0 (.slice la2 lsN.length lc2) (by omega)).other (C := nb) 1 (.string (brOf oN).key) (by omega)).other (C := nb) 2 (.string (brOf oN).val) (by omega)).other (C := nb) 3 (.int .i64 (brOf oN).at_) (by omega)).other (C := nb) 4 (.slice ka2 kn2 kc2) (by omega)).other (C := nb) 5 (.slice sa2 ssN.length sc2) (by omega)).set 0 (.int .i64 rN.kd) (by simp)).set 1 (.int .i64 rN.pl) (by simp)).set 2 (.string rN.vl) (by simp))
      have hsx := (uh HBx).size
      have hk11 := fun (bq i : Nat) (v : Value) (hb9 : bq < wr.heap.size) (h : wr.cell? ⟨bq, i, none⟩ = some v) => (T11.cell (p := ⟨bq, i, none⟩) (show bq < y15.heap.size by omega) (show ¬ (bq = nb ∨ bq = rv) by omega)).trans (((uh HBx).cell (p := ⟨bq, i, none⟩) hb9).trans h)
      have hk12 := fun (bq i : Nat) (v : Value) (hb9 : bq < wr.heap.size) (h : wr.cell? ⟨bq, i, none⟩ = some v) => (T12.cell (p := ⟨bq, i, none⟩) (show bq < y15.heap.size by omega) (show ¬ (bq = nb ∨ bq = rv) by omega)).trans (((uh HBx).cell (p := ⟨bq, i, none⟩) hb9).trans h)
      have LB9 := Hd ((uh LBx).touch T12 (fun x hx => by rcases hx with e | e <;> omega))
      have B9 := Hd ((uh HBx).trans (T12.below (uh HBx).size (fun x hx e => by rcases e with e | e <;> omega)))
      refine rdy1 11 rfl (fun K hK => ?_)
      go_simp
      refine outH hK ?_ (fun hHeld => ?_)
      ·exact ⟨hk11 _ _ _ hlb x0, hk11 _ _ _ hlb x1, hk11 _ _ _ hlb x2, hk11 _ _ _ hlb x3, hk11 _ _ _ hlb x4, hk11 _ _ _ hlb x5, hk11 _ _ _ hbw d0, hk11 _ _ _ hbw d1, hk11 _ _ _ hbw d2, hk11 _ _ _ hbw d3, hk11 _ _ _ hbw d4⟩
      clear hK K
      refine rdy1 12 rfl (fun K hK => ?_)
      go_simp
      refine outH hK ?_ (fun hHeld => ?_)
      ·exact ⟨hk12 _ _ _ hlb x0, hk12 _ _ _ hlb x1, hk12 _ _ _ hlb x2, hk12 _ _ _ hlb x3, hk12 _ _ _ hlb x4, hk12 _ _ _ hlb x5, hk12 _ _ _ hbw d0, hk12 _ _ _ hbw d1, hk12 _ _ _ hbw d2, hk12 _ _ _ hbw d3, hk12 _ _ _ hbw d4⟩
      clear hK K
      refine wpAnyH_done (by kernel_rfl) (NoPanic.normal ?_) _
      clear hHeld hk11 hk12 T11 T12
      go_wp2_with fail
      go_meet
      exact ⟨nb, rv, _, _, _, rfl, rfl, Hd ⟨uh B9, hnb, hrv, uh N9, uh V9, (uh LB9).mono (fun x hx => .inl (.inl hx))⟩⟩
   case rest =>
    obtain ⟨nb, rv, lv2, kv2, sv2, rfl, rfl, HG⟩ := hcut
    obtain ⟨B2, hnb, hrv, N2, V2, LB2⟩ := uh HG
    obtain ⟨la2, lc2, ka2, kn2, kc2, sa2, sc2, rfl, rfl, rfl⟩ := LB2.shape
    dsimp only at LB2 N2 V2
    have L2 := (uh L).below B2
    have hs2 := B2.size
    have hnl : lb ≠ nb := by omega
    have lx0 := L2.cell 0 rfl
    have lf0 := L2.fro 0
    have nx0 := N2.cell 0 rfl
    have lx1 := L2.cell 1 rfl
    have lf1 := L2.fro 1
    have nx1 := N2.cell 1 rfl
    have lx2 := L2.cell 2 rfl
    have lf2 := L2.fro 2
    have nx2 := N2.cell 2 rfl
    have lx3 := L2.cell 3 rfl
    have lf3 := L2.fro 3
    have nx3 := N2.cell 3 rfl
    have lx4 := L2.cell 4 rfl
    have lf4 := L2.fro 4
    have nx4 := N2.cell 4 rfl
    have lx5 := L2.cell 5 rfl
    have lf5 := L2.fro 5
    have nx5 := N2.cell 5 rfl
    have T6 := (((((((Touch.refl (fun x => x = lb) wc).setCell ⟨lb, 0, none⟩ (.slice la2 lsN.length lc2) (fun _ => rfl)).setCell ⟨lb, 1, none⟩ (.string (brOf oN).key) (fun _ => rfl)).setCell ⟨lb, 2, none⟩ (.string (brOf oN).val) (fun _ => rfl)).setCell ⟨lb, 3, none⟩ (.int .i64 (brOf oN).at_) (fun _ => rfl)).setCell ⟨lb, 4, none⟩ (.slice ka2 kn2 kc2) (fun _ => rfl)).setCell ⟨lb, 5, none⟩ (.slice sa2 ssN.length sc2) (fun _ => rfl))
    have K6a := (uh K).trans (B2.mono (uh K).size)
    have K3 := Hd (K6a.trans (T6.below K6a.size (fun x hx e => by omega)))
    have L3 := Hd ((((((L2.set 0 (.slice la2 lsN.length lc2) (by simp [ledC])).set 1 (.string (brOf oN).key) (by simp [ledC])).set 2 (.string (brOf oN).val) (by simp [ledC])).set 3 (.int .i64 (brOf oN).at_) (by simp [ledC])).set 4 (.slice ka2 kn2 kc2) (by simp [ledC])).set 5 (.slice sa2 ssN.length sc2) (by simp [ledC]))
    have C3 := Hd (((uh C).below B2).kept T6 (fun e => by omega))
    have R3 := Hd (((uh R).below B2).kept T6 (fun e => by omega))
    have FR3 := Hd (((uh FR).below B2).kept T6 (fun e => by omega))
    have FL3 := Hd ((((((((uh FL).below B2).set 0 (.slice la2 lsN.length lc2) (by omega)).set 1 (.string (brOf oN).key) (by omega)).set 2 (.string (brOf oN).val) (by omega)).set 3 (.int .i64 (brOf oN).at_) (by omega)).set 4 (.slice ka2 kn2 kc2) (by omega)).set 5 (.slice sa2 ssN.length sc2) (by omega))
    have V3' := Hd (V2.kept T6 (fun e => by omega))
    have LB3 := Hd (LB2.touch T6 (fun x hx => .inr hx))
    have e0 := (T6.cell (p := ⟨b, off + k * 5, none⟩) (show b < wc.heap.size by omega) (show ¬ b = lb by omega)).trans ((B2.cell (p := ⟨b, off + k * 5, none⟩) hbw).trans d0)
    have e1 := (T6.cell (p := ⟨b, off + k * 5 + 1, none⟩) (show b < wc.heap.size by omega) (show ¬ b = lb by omega)).trans ((B2.cell (p := ⟨b, off + k * 5 + 1, none⟩) hbw).trans d1)
    have e2 := (T6.cell (p := ⟨b, off + k * 5 + 2, none⟩) (show b < wc.heap.size by omega) (show ¬ b = lb by omega)).trans ((B2.cell (p := ⟨b, off + k * 5 + 2, none⟩) hbw).trans d2)
    have e3 := (T6.cell (p := ⟨b, off + k * 5 + 3, none⟩) (show b < wc.heap.size by omega) (show ¬ b = lb by omega)).trans ((B2.cell (p := ⟨b, off + k * 5 + 3, none⟩) hbw).trans d3)
    have e4 := (T6.cell (p := ⟨b, off + k * 5 + 4, none⟩) (show b < wc.heap.size by omega) (show ¬ b = lb by omega)).trans ((B2.cell (p := ⟨b, off + k * 5 + 4, none⟩) hbw).trans d4)
    clear HG B2 N2 V2 LB2 L2 T6 K6a HCA LBx L C R FR FL K x0 x1 x2 x3 x4 x5 d0 d1 d2 d3 d4
    go_upto_region 7 with fail
    clear lx0 lf0 nx0 lx1 lf1 nx1 lx2 lf2 nx2 lx3 lf3 nx3 lx4 lf4 nx4 lx5 lf5 nx5
    generalize ((((((wc.setCell ⟨lb, 0, none⟩ (.slice la2 lsN.length lc2)).setCell ⟨lb, 1, none⟩ (.string (brOf oN).key)).setCell ⟨lb, 2, none⟩ (.string (brOf oN).val)).setCell ⟨lb, 3, none⟩ (.int .i64 (brOf oN).at_)).setCell ⟨lb, 4, none⟩ (.slice ka2 kn2 kc2)).setCell ⟨lb, 5, none⟩ (.slice sa2 ssN.length sc2)) = w3 at *
    have q1 := fun wx => eql_cmd wx f0 f1 f2 c.kd c.ss c.sq f3 f4 c.ky c.vl
    have q3 : Tryz.prog.eqGuardType Tryz.prog.depth 31 = false := by kernel_rfl
    have hbw3 : b < w3.heap.size := by have := (uh K3).size; omega
    obtain ⟨y0, y1, y2, y3, y4⟩ := Blk.c5 (uh C3)
    refine wp_region_noPanic ?_
    refine wp_region_held_drew (S := (fun wx => wx.cell? ⟨b, off + k * 5, none⟩ = some (.int .i64 f0) ∧ wx.cell? ⟨b, off + k * 5 + 1, none⟩ = some (.int .i64 f1) ∧ wx.cell? ⟨b, off + k * 5 + 2, none⟩ = some (.int .i64 f2) ∧ wx.cell? ⟨b, off + k * 5 + 3, none⟩ = some (.string f3) ∧ wx.cell? ⟨b, off + k * 5 + 4, none⟩ = some (.string f4) ∧ wx.cell? ⟨w.heap.size, 0, none⟩ = some (.int .i64 c.kd) ∧ wx.cell? ⟨w.heap.size, 1, none⟩ = some (.int .i64 c.ss) ∧ wx.cell? ⟨w.heap.size, 2, none⟩ = some (.int .i64 c.sq) ∧ wx.cell? ⟨w.heap.size, 3, none⟩ = some (.string c.ky) ∧ wx.cell? ⟨w.heap.size, 4, none⟩ = some (.string c.vl))) (by kernel_rfl) ?_ (fun hHeld => ?_)
    ·exact ⟨e0, e1, e2, e3, e4, y0, y1, y2, y3, y4⟩
    refine tkH 0 rfl ?_
    refine tkH 1 rfl ?_
    refine tkH 2 rfl ?_
    refine tkH 3 rfl ?_
    refine tkH 4 rfl ?_
    refine tkH 5 rfl ?_
    refine wpAnyH_done (by kernel_rfl) (NoPanic.normal ?_) _
    clear hHeld e0 e1 e2 e3 e4 y0 y1 y2 y3 y4 q1 q3
    have hdr := below_drewN (Below.refl w3.heap.size w3) 1
    have K4 := hbt K3 hdr
    have C4 := Hd ((uh C3).below hdr)
    have R4 := Hd ((uh R3).below hdr)
    have FR4 := Hd ((uh FR3).below hdr)
    have FL4 := Hd ((uh FL3).below hdr)
    have L4 := Hd ((uh L3).below hdr)
    have V4 := Hd ((uh V3').below hdr)
    have LB4 := Hd ((uh LB3).below hdr)
    change Hid (Below w.heap.size w w3.drew) at K4
    change Hid (Blk w3.drew _ _) at C4
    change Hid (Blk w3.drew _ _) at R4
    change Hid (Blk w3.drew _ _) at L4
    change Hid (Blk w3.drew _ _) at V4
    change Hid (Fin w3.drew _ _) at FR4
    change Hid (Fin w3.drew _ _) at FL4
    change Hid (LedB _ w3.drew _ _ _ _) at LB4
    clear hdr K3 C3 R3 FR3 FL3 L3 V3' LB3 hbw3
    generalize w3.drew = w4 at *
    cases hq : cmEq ⟨f0, f1, f2, f3, f4⟩ ⟨c.kd, c.ss, c.sq, c.ky, c.vl⟩
    ·have hce : (⟨f0, f1, f2, f3, f4⟩ : Cm) ≠ c := fun e => by rw [cmEq_iff.2 (show (⟨f0, f1, f2, f3, f4⟩ : Cm) = ⟨c.kd, c.ss, c.sq, c.ky, c.vl⟩ from e)] at hq; cases hq
     have HN := Hd (show ∀ j, j < k + 1 → l.getD j default ≠ c from fun j hj e => by
      by_cases ej : j = k
      ·rw [ej, ← uh HF] at e; exact hce e
      ·exact uh HGO j (by omega) e)
     have I4 : Hid (AnI w lb l c (k + 1) w4) := Hd ⟨uh K4, uh C4, uh R4, uh FR4, uh FL4, _, _, _, by rw [uh HST]; exact uh L4, by rw [uh HST]; exact uh LB4⟩
     clear K4 C4 R4 FR4 FL4 L4 V4 LB4
     go_wp2_with fail
     refine ⟨⟨k + 1, by omega, by go_num, HN, I4⟩, ?_⟩
     simp [intOf]; omega
    ·have hce : l.getD k default = c := (uh HF).symm.trans (cmEq_iff.1 hq)
     have HCE := Hd hce
     clear hce
     have R := uh R4
     have hv4 : rv < w4.heap.size := (uh V4).1
     have hrr : w.heap.size + 1 ≠ rv := by omega
     have v0 := (uh V4).cell 0 rfl
     have v1 := (uh V4).cell 1 rfl
     have v2 := (uh V4).cell 2 rfl
     have rx0 := R.cell 0 rfl
     have rx1 := R.cell 1 rfl
     have rx2 := R.cell 2 rfl
     have rf0 := R.fro 0
     have rf1 := R.fro 1
     have rf2 := R.fro 2
     have R9 := ((R.set 0 (.int .i64 rN.kd) (by simp)).set 1 (.int .i64 rN.pl) (by simp)).set 2 (.string rN.vl) (by simp)
     have T9 := (((Touch.refl (fun x => x = w.heap.size + 1) w4).setCell ⟨w.heap.size + 1, 0, none⟩ (.int .i64 rN.kd) (fun _ => rfl)).setCell ⟨w.heap.size + 1, 1, none⟩ (.int .i64 rN.pl) (fun _ => rfl)).setCell ⟨w.heap.size + 1, 2, none⟩ (.string rN.vl) (fun _ => rfl)
     have K9 := Hd ((uh K4).trans (T9.below (uh K4).size (fun x hx e => by omega)))
     have HR9 := Hd R9
     clear K4 C4 R4 FR4 FL4 L4 V4 LB4 R R9 T9
     go_wp2_with fail
     have R9 := uh HR9
     have z0 := R9.cell 0 rfl
     have z1 := R9.cell 1 rfl
     have z2 := R9.cell 2 rfl
     refine bodyPost_ret (v := .tuple #[.agg #[.int .i64 rN.kd, .int .i64 rN.pl, .string rN.vl], .int .i64 (k : Int), .bool true]) (by simp [results, Tryz.results14, go_sem, z0, z1, z2]) rfl ?_
     exact ⟨.inl ⟨k, ⟨hlt, uh HCE, uh HGO⟩, by rw [uh HRE]⟩, uh K9⟩
  ·obtain rfl : k = l.length := by omega
   obtain ⟨K, C, R, FR, FL, lv, kv, sv, L, LB⟩ := uh HI
   have rx0 := R.cell 0 rfl
   have rx1 := R.cell 1 rfl
   have rx2 := R.cell 2 rfl
   have rf0 := R.fro 0
   have rf1 := R.fro 1
   have rf2 := R.fro 2
   have R9 := ((R.set 0 (.int .i64 0) (by simp)).set 1 (.int .i64 0) (by simp)).set 2 (.string ⟨#[]⟩) (by simp)
   have T9 := (((Touch.refl (fun x => x = w.heap.size + 1) wr).setCell ⟨w.heap.size + 1, 0, none⟩ (.int .i64 0) (fun _ => rfl)).setCell ⟨w.heap.size + 1, 1, none⟩ (.int .i64 0) (fun _ => rfl)).setCell ⟨w.heap.size + 1, 2, none⟩ (.string ⟨#[]⟩) (fun _ => rfl)
   have K9 := Hd (K.trans (T9.below K.size (fun x hx e => by omega)))
   have HR9 := Hd R9
   clear K C R FR FL L LB HI R9 T9
   go_wp2_with fail
   have R9 := uh HR9
   have z0 := R9.cell 0 rfl
   have z1 := R9.cell 1 rfl
   have z2 := R9.cell 2 rfl
   refine bodyPost_ret (v := .tuple #[.agg #[.int .i64 0, .int .i64 0, .string ⟨#[]⟩], .int .i64 0, .bool false]) (by simp [results, Tryz.results14, go_sem, z0, z1, z2]) rfl ?_
   exact ⟨.inr ⟨uh HGO, rfl⟩, uh K9⟩
end Go.Proofs.YtlbcdngidfjogaaGreatDoor.Sha
