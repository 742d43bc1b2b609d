/- What the laws do with two branches: eq; a branch that came in, opened. -/
import Derived.Test.YtinpoaghedhknaaDoorBrO
import Derived.Deep.Fields
import Derived.Deep.Slices
namespace Go.Proofs.YtinpoaghedhknaaDoor.Sha
open Go.ChangeShapes Go.WideShapes Go.ChangeAt Go.RowKit Go.Deep
set_option linter.unusedVariables false

set_option maxRecDepth 100000 in
set_option maxHeartbeats 1000000 in
theorem eqBranch_of (k v : ByteArray) (at_ : Int) (a a2 : Option Addr) (n n2 cap cap2 : Nat) (w : World)
    (HK : ∀ wx, Below w.heap.size w wx → Calls Tryd.prog 51 #[.slice a n cap, .slice a2 n2 cap2] wx fun e w' => e = .returned (.bool true) ∧ Below wx.heap.size wx w') :
    Calls Tryd.prog 25 #[.agg #[.string k, .string v, .int .i64 at_, .slice a n cap], .agg #[.string k, .string v, .int .i64 at_, .slice a2 n2 cap2]] w fun e w' => e = .returned (.bool true) ∧ Below w.heap.size w w' := by
  have HKK := hide HK
  have B0 := hide (((Below.refl w.heap.size w).alloc (Nat.le_refl _) (.cells #[.string k, .string v, .int .i64 at_, .slice a n cap] 34)).alloc (by simp) (.cells #[.string k, .string v, .int .i64 at_, .slice a2 n2 cap2] 34))
  clear HK
  go_enter Tryd.func25, Tryd.ntmps25
  go_wp2_with fail
  refine (unhide HKK _ (unhide B0)).mono ?_
  rintro e w1 ⟨rfl, hb1⟩
  have B1 := hide ((unhide B0).trans (hb1.mono (unhide B0).size))
  clear hb1
  go_wp2_with fail
  go_ret
  exact ⟨rfl, unhide B1⟩
set_option maxRecDepth 100000 in
set_option maxHeartbeats 2000000 in
theorem eqBranchS_any {S : Nat → Prop} {w0 : World} {v : Value} {l : List Br} (h : Brs S w0 v l) : ∀ (S2 : Nat → Prop) (v2 : Value) (w : World), Below w0.heap.size w0 w → Brs S2 w v2 l →
    Calls Tryd.prog 51 #[v, v2] w fun e w' => e = .returned (.bool true) ∧ Below w.heap.size w w' := by
  induction h with
  | nil a cap hc =>
    intro S2 v2 w hb0 h2
    obtain ⟨a2, cap2, rfl, _, _⟩ := h2.shape
    clear hb0 hc h2
    go_enter Tryd.func51, Tryd.ntmps51
    go_wp2_with fail
    go_loopw [5] (fun i wr => i = .int .i64 0 ∧ wr = w) (fun i _ => 0)
    case atStart => exact ⟨rfl, rfl⟩
    case round =>
      obtain ⟨rfl, hwr⟩ := hrel
      subst wr
      go_wp2_with fail
      go_ret
      exact ⟨rfl, Below.refl _ _⟩
  | row b off cap l kv p0 p1 p2 p3 p4 p5 p6 p7 ih =>
    intro S2 v2 w hb0 h2
    have HC := hide (BrAt.mk p3 p4 p5 p6 p7 : BrAt S w0 b off l kv)
    have HI := hide ih
    have HB0 := hide hb0
    have hlm : l.length ≤ 9223372036854775807 := by unfold maxLen at p2; omega
    obtain ⟨a2, cap2, rfl, _, _⟩ := h2.shape
    obtain ⟨b2, off2, kv2, rfl, _, hat2⟩ := h2.at p0
    have HC2 := hide hat2
    clear p3 p4 p5 p6 p7 ih hb0 p1 p2 h2 hat2
    go_enter Tryd.func51, Tryd.ntmps51
    go_wp2_with fail
    go_loopw [5] (fun i wr => ∃ k : Nat, k ≤ l.length ∧ i = .int .i64 k ∧ Below w.heap.size w wr) (fun i _ => l.length - (intOf i).toNat)
    case atStart => exact ⟨0, Nat.zero_le _, rfl, Below.refl _ _⟩
    case round =>
      obtain ⟨k, hk, rfl, hb⟩ := hrel
      by_cases hlt : k < l.length
      · obtain ⟨s0, s1, s2, s3⟩ := (unhide HC).cells k hlt
        obtain ⟨t0, t1, t2, t3⟩ := (unhide HC2).cells k hlt
        have hbl := (unhide HC).lt
        have hbl2 := (unhide HC2).lt
        have hb00 := (unhide HB0).trans (hb.mono (unhide HB0).size)
        have c0 := (hb00.cell (p := ⟨b, off + k * 4, none⟩) hbl).trans s0
        have c1 := (hb00.cell (p := ⟨b, off + k * 4 + 1, none⟩) hbl).trans s1
        have c2 := (hb00.cell (p := ⟨b, off + k * 4 + 2, none⟩) hbl).trans s2
        have c3 := (hb00.cell (p := ⟨b, off + k * 4 + 3, none⟩) hbl).trans s3
        have d0 := (hb.cell (p := ⟨b2, off2 + k * 4, none⟩) hbl2).trans t0
        have d1 := (hb.cell (p := ⟨b2, off2 + k * 4 + 1, none⟩) hbl2).trans t1
        have d2 := (hb.cell (p := ⟨b2, off2 + k * 4 + 2, none⟩) hbl2).trans t2
        have d3 := (hb.cell (p := ⟨b2, off2 + k * 4 + 3, none⟩) hbl2).trans t3
        obtain ⟨ka, kc, hkv, _, _⟩ := ((unhide HC).kids k hlt).shape
        obtain ⟨ka2, kc2, hkv2, _, _⟩ := ((unhide HC2).kids k hlt).shape
        have hk0 : (0 : Int) ≤ (k : Int) := by omega
        have hk1 : (k : Int) < (l.length : Int) := by omega
        have hbs := hb.size
        have hz1 : b < wr.heap.size := Nat.lt_of_lt_of_le hbl hb00.size
        have hz2 : b2 < wr.heap.size := Nat.lt_of_lt_of_le hbl2 hbs
        have HB := hide hb
        have HT := hide (fun wx (hbx : Below w.heap.size w wx) => eqBranch_of (l.getD k default).key (l.getD k default).val (l.getD k default).at_ ka ka2 (l.getD k default).kids.length (l.getD k default).kids.length kc kc2 wx
          (fun wy q2 => by
            have hwy := hbx.trans (q2.mono hbx.size)
            have := unhide HI k hlt S2 (kv2 k) wy ((unhide HB0).trans (hwy.mono (unhide HB0).size)) (((unhide HC2).kids k hlt).blw hwy)
            rw [hkv, hkv2] at this
            exact this))
        rw [hkv] at c3
        rw [hkv2] at d3
        clear hb00 s0 s1 s2 s3 t0 t1 t2 t3 hb hkv hkv2 hbl hbl2
        generalize (l.getD k default).key = fk at *
        generalize (l.getD k default).val = fv at *
        generalize (l.getD k default).at_ = fa at *
        generalize (l.getD k default).kids.length = fn at *
        go_wp2_with fail
        go_region_held3 (fun wx => wx.cell? ⟨b, off + k * 4, none⟩ = some (.string fk) ∧ wx.cell? ⟨b, off + k * 4 + 1, none⟩ = some (.string fv) ∧ wx.cell? ⟨b, off + k * 4 + 2, none⟩ = some (.int .i64 fa) ∧ wx.cell? ⟨b, off + k * 4 + 3, none⟩ = some (.slice ka fn kc) ∧ wx.cell? ⟨b2, off2 + k * 4, none⟩ = some (.string fk) ∧ wx.cell? ⟨b2, off2 + k * 4 + 1, none⟩ = some (.string fv) ∧ wx.cell? ⟨b2, off2 + k * 4 + 2, none⟩ = some (.int .i64 fa) ∧ wx.cell? ⟨b2, off2 + k * 4 + 3, none⟩ = some (.slice ka2 fn kc2))
          (first | go_keep | exact ⟨(hb2.cell (p := ⟨b, off + k * 4, none⟩) hz1).trans c0, (hb2.cell (p := ⟨b, off + k * 4 + 1, none⟩) hz1).trans c1, (hb2.cell (p := ⟨b, off + k * 4 + 2, none⟩) hz1).trans c2, (hb2.cell (p := ⟨b, off + k * 4 + 3, none⟩) hz1).trans c3, (hb2.cell (p := ⟨b2, off2 + k * 4, none⟩) hz2).trans d0, (hb2.cell (p := ⟨b2, off2 + k * 4 + 1, none⟩) hz2).trans d1, (hb2.cell (p := ⟨b2, off2 + k * 4 + 2, none⟩) hz2).trans d2, (hb2.cell (p := ⟨b2, off2 + k * 4 + 3, none⟩) hz2).trans d3⟩)
          ((go_at_call 25; refine (unhide HT _ (below_drewN (unhide HB) 1)).mono ?_; rintro e w2 ⟨rfl, hb2⟩))
        all_goals
          have HBZ := hide ((unhide HB).trans (show Below w.heap.size wr w2 from (below_drewN (Below.refl _ wr) 1).trans (hb2.mono (by simpa using hbs))))
          clear hb2 HB HT
          go_wp2_with fail
          refine ⟨⟨k + 1, by omega, by go_num, unhide HBZ⟩, ?_⟩
          simp [intOf]; omega
      · have HB := hide hb
        clear hb
        go_wp2_with fail
        go_ret
        exact ⟨rfl, unhide HB⟩
theorem array4s {c : Array Value} (h : c.size = 4) : ∃ a b d e, c = #[a, b, d, e] := by
  match c, h with
  | ⟨[a, b, d, e]⟩, _ => exact ⟨a, b, d, e, rfl⟩
set_option maxRecDepth 100000 in
/-- Branches that came in, opened. -/
theorem open_branches {H : Type} {enc : TypeId × Value → H} {W : World} {base : Nat} {sp : Nat → Bool} {held : Bool} : ∀ (fuel : Nat) (c : Value) (x : DataW H × List MemPlace),
    DataW.trod enc Tryd.prog W base sp held fuel 23 [c] = some x → ∃ l : List Br, Brs (fun _ => True) W c l := by
  have i3 : Tryd.prog.cellsOf 3 = 1 := by kernel_rfl
  have i9 : Tryd.prog.cellsOf 9 = 1 := by kernel_rfl
  have iS : Tryd.prog.cellsOf 23 = 1 := by kernel_rfl
  have iF : Tryd.prog.cellsOf 25 = 4 := by kernel_rfl
  intro fuel
  induction fuel using Nat.strongRecOn with
  | ind fuel ih =>
    intro c x h
    rcases DataW.trod_slice Tryd.underlying23 h with ⟨hc, _⟩ | ⟨a, len, cap, elems, rest, n, hfu, hc, _, hb, hl, hm, hel, hx, _, _⟩
    · simp only [List.cons.injEq, and_true] at hc
      subst hc
      exact ⟨[], .nil none 0 (by unfold maxLen; omega)⟩
    · simp only [List.cons.injEq, and_true] at hc
      subst hc
      rw [iF] at hx
      by_cases h0 : len = 0
      · subst h0
        exact ⟨[], .nil (some a) cap hm⟩
      have each : ∀ i, i < len → ∃ f : Br × Value, W.cell? (a.add (i * 4)) = some (.string f.1.key) ∧ W.cell? (a.add (i * 4 + 1)) = some (.string f.1.val) ∧ W.cell? (a.add (i * 4 + 2)) = some (.int .i64 f.1.at_) ∧ W.cell? (a.add (i * 4 + 3)) = some f.2 ∧ (f.1.key.size ≤ maxLen ∧ f.1.val.size ≤ maxLen) ∧ Brs (fun _ => True) W f.2 f.1.kids := by
        intro i hi
        have hxi := hx i hi
        rw [List.getElem?_eq_getElem (by omega)] at hxi
        obtain ⟨cs', h1, h2⟩ := Option.bind_eq_some_iff.1 hxi
        obtain ⟨_, hlen, hcell⟩ := World.cells?_some h1
        obtain ⟨xs, k, hk, hxy, _, hxl, hf⟩ := DataW.trod_struct Tryd.underlying25 h2
        match cs', hlen with
        | [v0, v1, v2, v3], _ =>
          obtain ⟨y0, e0⟩ := get_some hxl (show 0 < 4 by omega)
          obtain ⟨y1, e1⟩ := get_some hxl (show 1 < 4 by omega)
          obtain ⟨y2, e2⟩ := get_some hxl (show 2 < 4 by omega)
          obtain ⟨y3, e3⟩ := get_some hxl (show 3 < 4 by omega)
          have g0 : DataW.trod enc Tryd.prog W base sp held k 9 [v0] = some y0 := by simpa [Value.cells, i9] using (hf 0 _ rfl).trans e0
          have g1 : DataW.trod enc Tryd.prog W base sp held k 9 [v1] = some y1 := by simpa [Value.cells, i9] using (hf 1 _ rfl).trans e1
          have g2 : DataW.trod enc Tryd.prog W base sp held k 3 [v2] = some y2 := by simpa [Value.cells, i3] using (hf 2 _ rfl).trans e2
          have g3 : DataW.trod enc Tryd.prog W base sp held k 23 [v3] = some y3 := by simpa [Value.cells, iS] using (hf 3 _ rfl).trans e3
          obtain ⟨a0, f0, _, q0⟩ := DataW.trod_string Tryd.underlying9 g0
          obtain ⟨a1, f1, _, q1⟩ := DataW.trod_string Tryd.underlying9 g1
          obtain ⟨a2, f2, _, q2⟩ := DataW.trod_int Tryd.underlying3 g2
          obtain ⟨ks, hks⟩ := ih k (by omega) v3 y3 g3
          simp only [List.cons.injEq, and_true] at f0 f1 f2
          subst f0 f1 f2
          have c0 := hcell 0 (by omega)
          have c1 := hcell 1 (by omega)
          have c2 := hcell 2 (by omega)
          have c3 := hcell 3 (by omega)
          rw [add_add] at c0 c1 c2 c3
          exact ⟨(.mk a0 a1 a2 ks, v3), by simpa [Br.key] using c0, by simpa [Br.val] using c1, by simpa [Br.at_] using c2, by simpa using c3, ⟨q0, q1⟩, hks⟩
      obtain ⟨F, hF⟩ := choose_lt each
      have hlen : ((List.range len).map (fun i => (F i).1)).length = len := by simp
      have hget : ∀ i, i < len → ((List.range len).map (fun i => (F i).1)).getD i default = (F i).1 := fun i hi => by simp [List.getD_eq_getElem?_getD, hi]
      obtain ⟨b, off, spot⟩ := a
      have hc := (hF 0 (by omega)).1
      have hspot : spot = none := by simpa [Addr.add] using World.cell?_spot hc
      subst hspot
      have hblk := World.block_lt_of_cell? W _ hc
      have e0 : ∀ i, (⟨b, off, none⟩ : Addr).add i = ⟨b, off + i, none⟩ := fun i => by unfold Addr.add; split <;> simp_all
      rw [e0] at hblk
      have hR := Brs.row (S := fun _ => True) (w := W) b off cap ((List.range len).map (fun i => (F i).1)) (fun i => (F i).2) (by omega) (by omega) hm hblk trivial
        (fun i hi => by
          rw [hlen] at hi
          obtain ⟨k0, k1, k2, k3, _⟩ := hF i hi
          rw [e0] at k0 k1 k2 k3
          rw [hget i hi]
          exact ⟨k0, by rw [Nat.add_assoc]; exact k1, by rw [Nat.add_assoc]; exact k2, by rw [Nat.add_assoc]; exact k3⟩)
        (fun i hi => by
          rw [hlen] at hi
          rw [hget i hi]
          exact (hF i hi).2.2.2.2.1)
        (fun i hi => by
          rw [hlen] at hi
          rw [hget i hi]
          exact (hF i hi).2.2.2.2.2)
      rw [hlen] at hR
      exact ⟨_, hR⟩
set_option maxRecDepth 100000 in
theorem open_branch {H : Type} {enc : TypeId × Value → H} {W : World} {base b0 : Nat} {r : Reach} {sp : Nat → Bool} {held : Bool} {v : Value} {d : DataW H} {p : List MemPlace}
    (hv : Value.okWide Tryd.prog W r b0 25 v) (h : DataW.Trod enc Tryd.prog W base sp held 25 v d p) :
    ∃ (k va : ByteArray) (at_ : Int) (u : Value) (l : List Br), v = .agg #[.string k, .string va, .int .i64 at_, u] ∧ Brs (fun _ => True) W u l ∧ k.size ≤ maxLen ∧ va.size ≤ maxLen := by
  obtain ⟨cs, rfl, hsz⟩ := okWide_struct Tryd.underlying25 hv
  have hC : Tryd.prog.cellsOf 25 = 4 := by kernel_rfl
  obtain ⟨c0, c1, c2, c3, rfl⟩ := array4s (hsz.trans hC)
  obtain ⟨fuel, hf⟩ := h
  obtain ⟨xs, n, _, _, _, hlen, hfl⟩ := DataW.trod_struct Tryd.underlying25 hf
  have i3 : Tryd.prog.cellsOf 3 = 1 := by kernel_rfl
  have i9 : Tryd.prog.cellsOf 9 = 1 := by kernel_rfl
  have iS : Tryd.prog.cellsOf 23 = 1 := by kernel_rfl
  obtain ⟨y0, e0⟩ := get_some hlen (show 0 < 4 by omega)
  obtain ⟨y1, e1⟩ := get_some hlen (show 1 < 4 by omega)
  obtain ⟨y2, e2⟩ := get_some hlen (show 2 < 4 by omega)
  obtain ⟨y3, e3⟩ := get_some hlen (show 3 < 4 by omega)
  have g0 : DataW.trod enc Tryd.prog W base sp held n 9 [c0] = some y0 := by simpa [Value.cells, i9] using (hfl 0 _ rfl).trans e0
  have g1 : DataW.trod enc Tryd.prog W base sp held n 9 [c1] = some y1 := by simpa [Value.cells, i9] using (hfl 1 _ rfl).trans e1
  have g2 : DataW.trod enc Tryd.prog W base sp held n 3 [c2] = some y2 := by simpa [Value.cells, i3] using (hfl 2 _ rfl).trans e2
  have g3 : DataW.trod enc Tryd.prog W base sp held n 23 [c3] = some y3 := by simpa [Value.cells, iS] using (hfl 3 _ rfl).trans e3
  obtain ⟨a0, f0, _, q0⟩ := DataW.trod_string Tryd.underlying9 g0
  obtain ⟨a1, f1, _, q1⟩ := DataW.trod_string Tryd.underlying9 g1
  obtain ⟨a2, f2, _, q2⟩ := DataW.trod_int Tryd.underlying3 g2
  obtain ⟨ks, hks⟩ := open_branches n c3 y3 g3
  simp only [List.cons.injEq, and_true] at f0 f1 f2
  subst f0 f1 f2
  exact ⟨a0, a1, a2, c3, ks, rfl, hks, q0, q1⟩
end Go.Proofs.YtinpoaghedhknaaDoor.Sha
