/- spec.l10Tell, walked. (Written by py/npc.py.) -/
import Derived.Test.YtljolldacpkeeaaNpB
import Derived.Test.YtljolldacpkeeaaNodV
import Derived.Test.YtljolldacpkeeaaNesu
import Derived.Deep.DeepCutAuto
namespace Go.Proofs.Ytljolldacpkeeaa
open Go.ChangeShapes Go.WideShapes Go.ChangeAt Go.RowKit Go.Deep
set_option linter.unusedVariables false
set_option linter.unusedSimpArgs false

/-- A message without its list's place. -/
def bareM (x : MV) : MV := { x with ev := .slice none 0 0 }
/-- What a leader tells member d. -/
def tellM (id tm cm : Int) (lg : List En) (nx : List Int) (d : Int) : MV := ⟨3, id, d, tm, nx.getD d.toNat 0 - 1, termP lg (nx.getD d.toNat 0 - 1).toNat, cm, false, lg.drop (nx.getD d.toNat 0 - 1).toNat, .slice none 0 0⟩
/-- What it tells all others among ds. -/
def tellL (id tm cm : Int) (lg : List En) (nx : List Int) (ds : List Int) : List MV := (ds.filter (fun d => decide (d ≠ id))).map (tellM id tm cm lg nx)
theorem take_next {α : Type} (l : List α) (d : α) (k : Nat) (h : k < l.length) : l.take (k + 1) = l.take k ++ [l.getD k d] := by
  rw [List.take_add_one, List.getD_eq_getElem?_getD, List.getElem?_eq_getElem h]; rfl
theorem tellL_skip (id tm cm : Int) (lg : List En) (nx ds : List Int) (k : Nat) (h : k < ds.length) (he : ds.getD k 0 = id) : tellL id tm cm lg nx (ds.take (k + 1)) = tellL id tm cm lg nx (ds.take k) := by
  rw [take_next ds 0 k h, he]; simp [tellL]
theorem tellL_next (id tm cm : Int) (lg : List En) (nx ds : List Int) (k : Nat) (h : k < ds.length) (he : ds.getD k 0 ≠ id) : tellL id tm cm lg nx (ds.take (k + 1)) = tellL id tm cm lg nx (ds.take k) ++ [tellM id tm cm lg nx (ds.getD k 0)] := by
  rw [take_next ds 0 k h]
  unfold tellL
  rw [List.filter_append, List.map_append, List.filter_cons_of_pos (by simpa using he)]
  rfl
theorem Ns.pushed0 {X : Type} {S : Sh X} {D n g cap : Nat} {wr w3 w4 w5 : World} {v : Value} {l : List X} {x : X} (h : Ns S D wr v n l) (hb : Below wr.heap.size wr w3) (hx : ∀ p ∈ S.subs x, OwnSub wr.heap.size w3 p.1 p.2) (hap : ((S.subs x).map Prod.fst).Pairwise Apart) (hb4 : Below w3.heap.size w3 w4) (hown : w5.ownsRow D S.t S.sz (.slice (some ⟨g, 0, none⟩) (n + 1) cap) (n + 1) (l.flatMap S.cells ++ S.cells x)) (hg : w4.grownBy w5 v.ownBlock) (hat : v.ownBlock = some g ∨ g = w4.heap.size) (hD : D ≤ wr.heap.size) : Ns S D w5 (.slice (some ⟨g, 0, none⟩) (n + 1) cap) (n + 1) (l ++ [x]) := by
  have T45 : Touch (fun k => v.ownBlock = some k) w4 w5 := (Touch.refl _ w4).grown hg (fun k e _ => e)
  have hap0 := List.pairwise_cons.1 h.ap
  have hv : ∀ k, v.ownBlock = some k → D ≤ k ∧ k < wr.heap.size := World.ownsRow.lt h.row
  have s3 := hb.size
  have s4 := hb4.size
  refine Ns.push h hown (fun p hp => ?_) (fun p hp => ?_) hap (fun p hp e => ?_) (fun p hp e => ?_) (fun p hp q hq k h1 h2 => ?_)
  · exact (((h.sub p hp).kept (T := fun _ => False) (Touch.ofBelow hb) (fun _ _ e => e)).kept (T := fun _ => False) (Touch.ofBelow hb4) (fun _ _ e => e)).kept T45 (fun k hk e => hap0.1 p.1 (List.mem_map_of_mem hp) k e hk)
  · have hl := (hx p hp).lt
    refine (((hx p hp).kept (T := fun _ => False) (Touch.ofBelow hb4) (fun _ _ e => e)).kept T45 (fun k hk e => ?_)).down hD
    have := hl k hk; have := hv k e; omega
  · rcases hat with ha | ha
    · exact hap0.1 p.1 (List.mem_map_of_mem hp) g ha e
    · have := (h.sub p hp).lt g e; omega
  · have h2 := (hx p hp).lt g e
    rcases hat with ha | ha
    · have := hv g ha; omega
    · omega
  · have := (h.sub p hp).lt k h1; have := (hx q hq).lt k h2; omega
theorem ns_made {X : Type} (S : Sh X) (w : World) (B : Nat) (hB : B ≤ w.heap.size) : Ns S B (w.alloc (.cells #[] S.t)) (.slice (some ⟨w.heap.size, 0, none⟩) 0 0) 0 [] :=
  ⟨World.ownsRow_made w #[] 0 hB (by unfold maxLen; omega) (by simp), rfl, fun p hp => by simp at hp, by simp⟩
theorem blk_rw {w : World} {B : Nat} {vs : List Value} (h : Blk w B vs) : Rw w (.slice (some ⟨B, 0, none⟩) 1 1) 1 vs := ⟨_, _, rfl, .inr ⟨_, rfl, fun j u hu => by
    have h1 := h.cell j hu
    have e : (⟨B, 0, none⟩ : Addr).add j = ⟨B, j, none⟩ := by
      by_cases h0 : j = 0
      · subst h0; simp [Addr.add]
      · simp [Addr.add, h0]
    rw [e]; exact h1⟩⟩
theorem tell_one (id tm cm : Int) (lg : List En) (nx : List Int) (d p : Nat) (ev : Value) (hp : nx.getD d 0 = (p : Int) + 1) : bareM ⟨3, id, (d : Int), tm, (p : Int), termP lg p, cm, false, lg.drop p, ev⟩ = tellM id tm cm lg nx (d : Int) := by
  have e : (p : Int) + 1 - 1 = (p : Int) := by omega
  unfold bareM tellM
  rw [Int.toNat_natCast, hp, e, Int.toNat_natCast]
theorem infoMsg : (Try.prog.info? 59).map (fun i => (i.zero, i.size, i.bytes)) = some (some (.agg #[.int .i64 0, .int .i64 0, .int .i64 0, .int .i64 0, .int .i64 0, .int .i64 0, .int .i64 0, .slice none 0 0, .bool false]), 9, 88) := by kernel_rfl
set_option maxRecDepth 100000 in
set_option maxHeartbeats 1500000 in
theorem l10Tell_any (id tm vo ro cm el wt : Int) (up : Bool) (lg : List En) (st vs nx mt : List Int) (la : Option Addr) (lc : Nat) (sa : Option Addr) (sc : Nat) (va : Option Addr) (vc : Nat) (na : Option Addr) (nc : Nat) (ma : Option Addr) (mc : Nat) (w : World) (hE : Ens w (.slice la lg.length lc) lg) (hS : Ints w (.slice sa st.length sc) st) (hN : Ints w (.slice na nx.length nc) nx) (hz : ∀ i, (lg.getD i default).d.size ≤ 1048576) (hl : lg.length ≤ 60) (hg : CfgOK lg) (hx : nx.length = 7) (hm : (mbAt lg st lg.length).length ≤ 7) (hd : ∀ d ∈ mbAt lg st lg.length, 0 ≤ d ∧ d < 7 ∧ (d ≠ id → 1 ≤ nx.getD d.toNat 0 ∧ nx.getD d.toNat 0 ≤ (lg.length : Int) + 1)) :
    Calls Try.prog 42 #[.agg #[.int .i64 id, .int .i64 tm, .int .i64 vo, .slice la lg.length lc, .slice sa st.length sc, .int .i64 ro, .slice va vs.length vc, .slice na nx.length nc, .slice ma mt.length mc, .int .i64 cm, .int .i64 el, .int .i64 wt, .bool up]] w fun e w' => ∃ v l, e = .returned v ∧ Ns mgS w.heap.size w' v l.length l ∧ l.map bareM = tellL id tm cm lg nx (mbAt lg st lg.length) ∧ Below w.heap.size w w' := by
  obtain ⟨i1, hj, hy0, hy1, hy2⟩ := info_parts infoMsg
  have BB := (Below.refl w.heap.size w).alloc (Nat.le_refl _) (.cells #[.int .i64 id, .int .i64 tm, .int .i64 vo, .slice la lg.length lc, .slice sa st.length sc, .int .i64 ro, .slice va vs.length vc, .slice na nx.length nc, .slice ma mt.length mc, .int .i64 cm, .int .i64 el, .int .i64 wt, .bool up] 29)
  have B0 := hide BB
  have X0 := hide (Blk.new w #[.int .i64 id, .int .i64 tm, .int .i64 vo, .slice la lg.length lc, .slice sa st.length sc, .int .i64 ro, .slice va vs.length vc, .slice na nx.length nc, .slice ma mt.length mc, .int .i64 cm, .int .i64 el, .int .i64 wt, .bool up] 29 w.heap.size rfl)
  have HMem := hide (l10Members_any id tm vo ro cm el wt up lg st vs nx mt la lc sa sc va vc na nc ma mc)
  have HE := hide hE
  have HS := hide hS
  have HZ := hide hz
  have HG := hide hg
  have HAp := hide (fun (d p : Nat) wx (hb : Below w.heap.size w wx) (hd7 : d < 7) (hp : nx.getD d 0 = (p : Int) + 1) (hpl : p ≤ lg.length) => l10Append_any id tm vo ro cm el wt up lg st vs nx mt la lc sa sc va vc na nc ma mc d p wx (hE.below hb) (hN.below hb) hl hx hd7 hp hpl)
  generalize hmb : mbAt lg st lg.length = mb at *
  have HMB := hide hmb
  have HD := hide hd
  clear hE hS hz hg hN hx BB hmb hd
  go_enter Try.func42, Try.ntmps42
  have x0 := (unhide X0).cell 0 rfl
  have x1 := (unhide X0).cell 1 rfl
  have x2 := (unhide X0).cell 2 rfl
  have x3 := (unhide X0).cell 3 rfl
  have x4 := (unhide X0).cell 4 rfl
  have x5 := (unhide X0).cell 5 rfl
  have x6 := (unhide X0).cell 6 rfl
  have x7 := (unhide X0).cell 7 rfl
  have x8 := (unhide X0).cell 8 rfl
  have x9 := (unhide X0).cell 9 rfl
  have x10 := (unhide X0).cell 10 rfl
  have x11 := (unhide X0).cell 11 rfl
  have x12 := (unhide X0).cell 12 rfl
  go_wp2_with fail
  have BM := (unhide B0).alloc (by simp) (.cells #[] 59)
  have B1 := hide BM
  have X1 := hide ((unhide X0).alloc (.cells #[] 59))
  have hw1 : w.heap.size + 1 < ((w.alloc (.cells #[.int .i64 id, .int .i64 tm, .int .i64 vo, .slice la lg.length lc, .slice sa st.length sc, .int .i64 ro, .slice va vs.length vc, .slice na nx.length nc, .slice ma mt.length mc, .int .i64 cm, .int .i64 el, .int .i64 wt, .bool up] 29)).alloc (.cells #[] 59)).heap.size := by simp
  have hlk : (w.alloc (.cells #[.int .i64 id, .int .i64 tm, .int .i64 vo, .slice la lg.length lc, .slice sa st.length sc, .int .i64 ro, .slice va vs.length vc, .slice na nx.length nc, .slice ma mt.length mc, .int .i64 cm, .int .i64 el, .int .i64 wt, .bool up] 29)).heap.size = w.heap.size + 1 := by simp
  have N1 := hide (show Ns mgS w.heap.size ((w.alloc (.cells #[.int .i64 id, .int .i64 tm, .int .i64 vo, .slice la lg.length lc, .slice sa st.length sc, .int .i64 ro, .slice va vs.length vc, .slice na nx.length nc, .slice ma mt.length mc, .int .i64 cm, .int .i64 el, .int .i64 wt, .bool up] 29)).alloc (.cells #[] 59)) (.slice (some ⟨w.heap.size + 1, 0, none⟩) 0 0) 0 [] by rw [← hlk]; exact ns_made mgS _ _ (by simp))
  have hc0 : ∀ q, ((w.alloc (.cells #[.int .i64 id, .int .i64 tm, .int .i64 vo, .slice la lg.length lc, .slice sa st.length sc, .int .i64 ro, .slice va vs.length vc, .slice na nx.length nc, .slice ma mt.length mc, .int .i64 cm, .int .i64 el, .int .i64 wt, .bool up] 29)).alloc (.cells #[] 59)).cell? ⟨w.heap.size + 1, q, none⟩ = none := fun q => by rw [← hlk]; rw [World.cell?_alloc_at _ _ _ _ rfl]; rfl
  have HC := hide (unhide HMem _ ((unhide HE).below BM) ((unhide HS).below BM) (unhide HZ) (by omega) (unhide HG))
  clear x0 x1 x2 x3 x4 x5 x6 x7 x8 x9 x10 x11 x12 X0 B0 BM hlk HMem
  generalize (w.alloc (.cells #[.int .i64 id, .int .i64 tm, .int .i64 vo, .slice la lg.length lc, .slice sa st.length sc, .int .i64 ro, .slice va vs.length vc, .slice na nx.length nc, .slice ma mt.length mc, .int .i64 cm, .int .i64 el, .int .i64 wt, .bool up] 29)).alloc (.cells #[] 59) = w1 at *
  refine (unhide HC).mono ?_
  rintro e w2 ⟨lv, rfl, hlv, hb2⟩
  have HLV := hide hlv
  have X2 := hide ((unhide X1).below hb2)
  have N2 := hide ((unhide N1).below hb2)
  have B2 := hide ((unhide B1).trans (hb2.mono (unhide B1).size))
  have HC0 := hide (fun q => (hb2.cell (p := ⟨w.heap.size + 1, q, none⟩) hw1).trans (hc0 q))
  have hw2 : w.heap.size + 1 < w2.heap.size := Nat.lt_of_lt_of_le hw1 hb2.size
  clear hc0 HC hlv hb2 X1 N1 B1 hw1 HE HS HZ HG
  obtain ⟨av, cv, elv, hmv, hcv⟩ := unhide HLV
  subst elv
  have HCV := hide hcv
  have HMV := hide hmv
  clear hcv hmv
  go_wp2_with fail
  go_loopw [3, 5] (fun vv i wr => ∃ (k : Nat) (l : List MV) (u : Value), u = vv ∧ k ≤ mb.length ∧ i = .int .i64 (k : Int) ∧ l.length ≤ k ∧ Hid (Ns mgS w.heap.size wr u l.length l) ∧ Hid (∀ q, u.ownBlock = some q → q = w.heap.size + 1 ∨ w2.heap.size ≤ q) ∧ Hid (l.map bareM = tellL id tm cm lg nx (mb.take k)) ∧ Hid (Touch (fun q => q = w.heap.size + 1) w2 wr)) (fun _ i _ => mb.length - (intOf i).toNat)
  case atStart => exact ⟨0, [], _, rfl, Nat.zero_le _, rfl, Nat.le_refl _, N2, hide (fun q hq => by simp [Value.ownBlock] at hq; omega), hide rfl, hide (Touch.refl _ _)⟩
  case round =>
    obtain ⟨k, l, u, rfl, hk, rfl, hlk, NR, OR, LR, TR⟩ := hrel
    have hrs := (unhide TR).size
    have XR := (unhide X2).kept (unhide TR) (by omega)
    have HBW := hide ((unhide B2).trans ((unhide TR).below (by omega) (fun q hq e => by omega)))
    have x0 := XR.cell 0 rfl
    have x1 := XR.cell 1 rfl
    have x2 := XR.cell 2 rfl
    have x3 := XR.cell 3 rfl
    have x4 := XR.cell 4 rfl
    have x5 := XR.cell 5 rfl
    have x6 := XR.cell 6 rfl
    have x7 := XR.cell 7 rfl
    have x8 := XR.cell 8 rfl
    have x9 := XR.cell 9 rfl
    have x10 := XR.cell 10 rfl
    have x11 := XR.cell 11 rfl
    have x12 := XR.cell 12 rfl
    clear XR
    by_cases hlt : k < mb.length
    · obtain ⟨b, off, rfl, hbl, hcs⟩ : ∃ b off, av = some ⟨b, off, none⟩ ∧ b < w2.heap.size ∧ ∀ i, i < mb.length → w2.cell? ⟨b, off + i, none⟩ = some (.int .i64 (mb.getD i 0)) := by
        rcases unhide HCV with h0 | h1
        · omega
        · exact h1
      have hbn : ¬ b = w.heap.size + 1 := fun e => by
        have h1 := hcs k hlt
        rw [e, unhide HC0] at h1
        exact absurd h1 (by simp)
      have c0 := ((unhide TR).cell (p := ⟨b, off + k, none⟩) hbl hbn).trans (hcs k hlt)
      have hdk := unhide HD (mb.getD k 0) (by rw [List.getD_eq_getElem?_getD, List.getElem?_eq_getElem hlt]; simp)
      have HSk := hide (tellL_skip id tm cm lg nx mb k hlt)
      have HNe := hide (tellL_next id tm cm lg nx mb k hlt)
      clear hcs
      generalize mb.getD k 0 = z at *
      obtain ⟨hz0, hz7, hz1⟩ := hdk
      obtain ⟨d, rfl⟩ : ∃ d : Nat, z = (d : Int) := ⟨z.toNat, by omega⟩
      have q0 : (0 : Int) ≤ (k : Int) := by omega
      have q1 : (k : Int) < (mb.length : Int) := by omega
      have q2 : IntKind.i64.wrap ((k : Int) + 1) = (k : Int) + 1 := wrapSm _ (by omega) (by omega)
      by_cases hdi : (d : Int) = id
      · have HS2 := hide (unhide HSk hdi)
        have q5 : id = (d : Int) := hdi.symm
        clear hz1 HNe HSk hdi
        subst q5
        go_wp2_with fail
        have HBq := hide (below_drewN (Below.refl wr.heap.size wr) 1)
        refine wp_region_noPanic ?_
        refine wp_region_held_drew (S := (fun wx => wx.cell? ⟨b, off + k, none⟩ = some (.int .i64 (d : Int)) ∧ wx.cell? ⟨w.heap.size, 0, none⟩ = some (.int .i64 (d : Int)) ∧ wx.cell? ⟨w.heap.size, 1, none⟩ = some (.int .i64 tm) ∧ wx.cell? ⟨w.heap.size, 2, none⟩ = some (.int .i64 vo) ∧ wx.cell? ⟨w.heap.size, 3, none⟩ = some (.slice la lg.length lc) ∧ wx.cell? ⟨w.heap.size, 4, none⟩ = some (.slice sa st.length sc) ∧ wx.cell? ⟨w.heap.size, 5, none⟩ = some (.int .i64 ro) ∧ wx.cell? ⟨w.heap.size, 6, none⟩ = some (.slice va vs.length vc) ∧ wx.cell? ⟨w.heap.size, 7, none⟩ = some (.slice na nx.length nc) ∧ wx.cell? ⟨w.heap.size, 8, none⟩ = some (.slice ma mt.length mc) ∧ wx.cell? ⟨w.heap.size, 9, none⟩ = some (.int .i64 cm) ∧ wx.cell? ⟨w.heap.size, 10, none⟩ = some (.int .i64 el) ∧ wx.cell? ⟨w.heap.size, 11, none⟩ = some (.int .i64 wt) ∧ wx.cell? ⟨w.heap.size, 12, none⟩ = some (.bool up))) (by kernel_rfl) ?_ (fun hHeld => ?_)
        · exact ⟨c0, x0, x1, x2, x3, x4, x5, x6, x7, x8, x9, x10, x11, x12⟩
        refine wpAnyH_take (i := 0) (oi := _) (v := ?_) rfl (by kernel_rfl) (by kernel_rfl) (by kernel_rfl) (fun _ _ _ h => h) (Or.inl ⟨by rfl, ?_⟩) (by assumption) ?_
        rotate_left 1
        · (intro wq hSw; (try dsimp only at hSw); (try simp only [List.getElem_toArray, List.getElem_cons_succ, List.getElem_cons_zero]); go_simp; try with_reducible rfl)
        (try simp only [Act.put, List.getElem_toArray, List.getElem_cons_succ, List.getElem_cons_zero, List.setIfInBounds_toArray, List.set_cons_zero, List.set_cons_succ])
        refine wpAnyH_take (i := 1) (oi := _) (v := ?_) rfl (by kernel_rfl) (by kernel_rfl) (by kernel_rfl) (fun _ _ _ h => h) (Or.inl ⟨by rfl, ?_⟩) (by assumption) ?_
        rotate_left 1
        · (intro wq hSw; (try dsimp only at hSw); (try simp only [List.getElem_toArray, List.getElem_cons_succ, List.getElem_cons_zero]); go_simp; try with_reducible rfl)
        (try simp only [Act.put, List.getElem_toArray, List.getElem_cons_succ, List.getElem_cons_zero, List.setIfInBounds_toArray, List.set_cons_zero, List.set_cons_succ])
        refine wpAnyH_take (i := 2) (oi := _) (v := ?_) rfl (by kernel_rfl) (by kernel_rfl) (by kernel_rfl) (fun _ _ _ h => h) (Or.inl ⟨by rfl, ?_⟩) (by assumption) ?_
        rotate_left 1
        · (intro wq hSw; (try dsimp only at hSw); (try simp only [List.getElem_toArray, List.getElem_cons_succ, List.getElem_cons_zero]); go_simp; try with_reducible rfl)
        (try simp only [Act.put, List.getElem_toArray, List.getElem_cons_succ, List.getElem_cons_zero, List.setIfInBounds_toArray, List.set_cons_zero, List.set_cons_succ])
        refine wpAnyH_take (i := 3) (oi := _) (v := ?_) rfl (by kernel_rfl) (by kernel_rfl) (by kernel_rfl) (fun _ _ _ h => h) (Or.inl ⟨by rfl, ?_⟩) (by assumption) ?_
        rotate_left 1
        · (intro wq hSw; (try dsimp only at hSw); (try simp only [List.getElem_toArray, List.getElem_cons_succ, List.getElem_cons_zero]); go_simp; try with_reducible rfl)
        (try simp only [Act.put, List.getElem_toArray, List.getElem_cons_succ, List.getElem_cons_zero, List.setIfInBounds_toArray, List.set_cons_zero, List.set_cons_succ])
        refine wpAnyH_take (i := 4) (oi := _) (v := ?_) rfl (by kernel_rfl) (by kernel_rfl) (by kernel_rfl) (fun _ _ _ h => h) (Or.inl ⟨by rfl, ?_⟩) (by assumption) ?_
        rotate_left 1
        · (intro wq hSw; (try dsimp only at hSw); (try simp only [List.getElem_toArray, List.getElem_cons_succ, List.getElem_cons_zero]); go_simp; try with_reducible rfl)
        (try simp only [Act.put, List.getElem_toArray, List.getElem_cons_succ, List.getElem_cons_zero, List.setIfInBounds_toArray, List.set_cons_zero, List.set_cons_succ])
        refine wpAnyH_take (i := 5) (oi := _) (v := ?_) rfl (by kernel_rfl) (by kernel_rfl) (by kernel_rfl) (fun _ _ _ h => h) (Or.inl ⟨by rfl, ?_⟩) (by assumption) ?_
        rotate_left 1
        · (intro wq hSw; (try dsimp only at hSw); (try simp only [List.getElem_toArray, List.getElem_cons_succ, List.getElem_cons_zero]); go_simp; try with_reducible rfl)
        (try simp only [Act.put, List.getElem_toArray, List.getElem_cons_succ, List.getElem_cons_zero, List.setIfInBounds_toArray, List.set_cons_zero, List.set_cons_succ])
        refine wpAnyH_take (i := 6) (oi := _) (v := ?_) rfl (by kernel_rfl) (by kernel_rfl) (by kernel_rfl) (fun _ _ _ h => h) (Or.inl ⟨by rfl, ?_⟩) (by assumption) ?_
        rotate_left 1
        · (intro wq hSw; (try dsimp only at hSw); (try simp only [List.getElem_toArray, List.getElem_cons_succ, List.getElem_cons_zero]); go_simp; try with_reducible rfl)
        (try simp only [Act.put, List.getElem_toArray, List.getElem_cons_succ, List.getElem_cons_zero, List.setIfInBounds_toArray, List.set_cons_zero, List.set_cons_succ])
        change Hid (Below wr.heap.size wr wr.drew) at HBq
        obtain ⟨wq, hwq⟩ : ∃ wq, wq = wr.drew := ⟨_, rfl⟩
        rw [← hwq] at HBq hHeld ⊢
        clear hwq c0 x0 x1 x2 x3 x4 x5 x6 x7 x8 x9 x10 x11 x12
        obtain ⟨c0, x0, x1, x2, x3, x4, x5, x6, x7, x8, x9, x10, x11, x12⟩ := hHeld
        have hHeld : (fun wx => wx.cell? ⟨b, off + k, none⟩ = some (.int .i64 (d : Int)) ∧ wx.cell? ⟨w.heap.size, 0, none⟩ = some (.int .i64 (d : Int)) ∧ wx.cell? ⟨w.heap.size, 1, none⟩ = some (.int .i64 tm) ∧ wx.cell? ⟨w.heap.size, 2, none⟩ = some (.int .i64 vo) ∧ wx.cell? ⟨w.heap.size, 3, none⟩ = some (.slice la lg.length lc) ∧ wx.cell? ⟨w.heap.size, 4, none⟩ = some (.slice sa st.length sc) ∧ wx.cell? ⟨w.heap.size, 5, none⟩ = some (.int .i64 ro) ∧ wx.cell? ⟨w.heap.size, 6, none⟩ = some (.slice va vs.length vc) ∧ wx.cell? ⟨w.heap.size, 7, none⟩ = some (.slice na nx.length nc) ∧ wx.cell? ⟨w.heap.size, 8, none⟩ = some (.slice ma mt.length mc) ∧ wx.cell? ⟨w.heap.size, 9, none⟩ = some (.int .i64 cm) ∧ wx.cell? ⟨w.heap.size, 10, none⟩ = some (.int .i64 el) ∧ wx.cell? ⟨w.heap.size, 11, none⟩ = some (.int .i64 wt) ∧ wx.cell? ⟨w.heap.size, 12, none⟩ = some (.bool up)) wq := ⟨c0, x0, x1, x2, x3, x4, x5, x6, x7, x8, x9, x10, x11, x12⟩
        have N6 := hide ((unhide NR).below (unhide HBq))
        have T6 := hide ((unhide TR).trans (T' := fun _ => False) (Touch.ofBelow (unhide HBq)) (fun _ _ e => e.elim))
        have W6 := hide ((unhide HBW).trans ((unhide HBq).mono (unhide HBW).size))
        have hrs6 : w2.heap.size ≤ wq.heap.size := Nat.le_trans hrs (unhide HBq).size
        clear NR TR HBW hrs HBq
        have NR := N6
        have TR := T6
        have HBW := W6
        have hrs := hrs6
        clear N6 T6 W6 hrs6
        refine wpAnyH_done (by kernel_rfl) (NoPanic.normal ?_) _
        go_wp2_with fail
        refine ⟨⟨k + 1, l, u, rfl, by omega, by go_num, by omega, NR, OR, hide (by rw [unhide HS2]; exact unhide LR), TR⟩, ?_⟩
        simp [intOf]; omega
      · have HN2 := hide (unhide HNe hdi)
        obtain ⟨hz1, hz2⟩ := hz1 hdi
        rw [Int.toNat_natCast] at hz1 hz2
        obtain ⟨p, hp⟩ : ∃ p : Nat, nx.getD d 0 = (p : Int) + 1 := ⟨(nx.getD d 0 - 1).toNat, by omega⟩
        have hpl : p ≤ lg.length := by omega
        have HP := hide hp
        have HT1 := hide (fun ev => tell_one id tm cm lg nx d p ev hp)
        clear hz1 hz2 hp HNe HSk
        go_wp2_with fail
        have HBq := hide (below_drewN (Below.refl wr.heap.size wr) 1)
        refine wp_region_noPanic ?_
        refine wp_region_held_drew (S := (fun wx => wx.cell? ⟨b, off + k, none⟩ = some (.int .i64 (d : Int)) ∧ wx.cell? ⟨w.heap.size, 0, none⟩ = some (.int .i64 id) ∧ wx.cell? ⟨w.heap.size, 1, none⟩ = some (.int .i64 tm) ∧ wx.cell? ⟨w.heap.size, 2, none⟩ = some (.int .i64 vo) ∧ wx.cell? ⟨w.heap.size, 3, none⟩ = some (.slice la lg.length lc) ∧ wx.cell? ⟨w.heap.size, 4, none⟩ = some (.slice sa st.length sc) ∧ wx.cell? ⟨w.heap.size, 5, none⟩ = some (.int .i64 ro) ∧ wx.cell? ⟨w.heap.size, 6, none⟩ = some (.slice va vs.length vc) ∧ wx.cell? ⟨w.heap.size, 7, none⟩ = some (.slice na nx.length nc) ∧ wx.cell? ⟨w.heap.size, 8, none⟩ = some (.slice ma mt.length mc) ∧ wx.cell? ⟨w.heap.size, 9, none⟩ = some (.int .i64 cm) ∧ wx.cell? ⟨w.heap.size, 10, none⟩ = some (.int .i64 el) ∧ wx.cell? ⟨w.heap.size, 11, none⟩ = some (.int .i64 wt) ∧ wx.cell? ⟨w.heap.size, 12, none⟩ = some (.bool up))) (by kernel_rfl) ?_ (fun hHeld => ?_)
        · exact ⟨c0, x0, x1, x2, x3, x4, x5, x6, x7, x8, x9, x10, x11, x12⟩
        refine wpAnyH_take (i := 0) (oi := _) (v := ?_) rfl (by kernel_rfl) (by kernel_rfl) (by kernel_rfl) (fun _ _ _ h => h) (Or.inl ⟨by rfl, ?_⟩) (by assumption) ?_
        rotate_left 1
        · (intro wq hSw; (try dsimp only at hSw); (try simp only [List.getElem_toArray, List.getElem_cons_succ, List.getElem_cons_zero]); go_simp; try with_reducible rfl)
        (try simp only [Act.put, List.getElem_toArray, List.getElem_cons_succ, List.getElem_cons_zero, List.setIfInBounds_toArray, List.set_cons_zero, List.set_cons_succ])
        refine wpAnyH_take (i := 1) (oi := _) (v := ?_) rfl (by kernel_rfl) (by kernel_rfl) (by kernel_rfl) (fun _ _ _ h => h) (Or.inl ⟨by rfl, ?_⟩) (by assumption) ?_
        rotate_left 1
        · (intro wq hSw; (try dsimp only at hSw); (try simp only [List.getElem_toArray, List.getElem_cons_succ, List.getElem_cons_zero]); go_simp; try with_reducible rfl)
        (try simp only [Act.put, List.getElem_toArray, List.getElem_cons_succ, List.getElem_cons_zero, List.setIfInBounds_toArray, List.set_cons_zero, List.set_cons_succ])
        refine wpAnyH_take (i := 2) (oi := _) (v := ?_) rfl (by kernel_rfl) (by kernel_rfl) (by kernel_rfl) (fun _ _ _ h => h) (Or.inl ⟨by rfl, ?_⟩) (by assumption) ?_
        rotate_left 1
        · (intro wq hSw; (try dsimp only at hSw); (try simp only [List.getElem_toArray, List.getElem_cons_succ, List.getElem_cons_zero]); go_simp; try with_reducible rfl)
        (try simp only [Act.put, List.getElem_toArray, List.getElem_cons_succ, List.getElem_cons_zero, List.setIfInBounds_toArray, List.set_cons_zero, List.set_cons_succ])
        refine wpAnyH_take (i := 3) (oi := _) (v := ?_) rfl (by kernel_rfl) (by kernel_rfl) (by kernel_rfl) (fun _ _ _ h => h) (Or.inl ⟨by rfl, ?_⟩) (by assumption) ?_
        rotate_left 1
        · (intro wq hSw; (try dsimp only at hSw); (try simp only [List.getElem_toArray, List.getElem_cons_succ, List.getElem_cons_zero]); go_simp; try with_reducible rfl)
        (try simp only [Act.put, List.getElem_toArray, List.getElem_cons_succ, List.getElem_cons_zero, List.setIfInBounds_toArray, List.set_cons_zero, List.set_cons_succ])
        refine wpAnyH_take (i := 4) (oi := _) (v := ?_) rfl (by kernel_rfl) (by kernel_rfl) (by kernel_rfl) (fun _ _ _ h => h) (Or.inl ⟨by rfl, ?_⟩) (by assumption) ?_
        rotate_left 1
        · (intro wq hSw; (try dsimp only at hSw); (try simp only [List.getElem_toArray, List.getElem_cons_succ, List.getElem_cons_zero]); go_simp; try with_reducible rfl)
        (try simp only [Act.put, List.getElem_toArray, List.getElem_cons_succ, List.getElem_cons_zero, List.setIfInBounds_toArray, List.set_cons_zero, List.set_cons_succ])
        refine wpAnyH_take (i := 5) (oi := _) (v := ?_) rfl (by kernel_rfl) (by kernel_rfl) (by kernel_rfl) (fun _ _ _ h => h) (Or.inl ⟨by rfl, ?_⟩) (by assumption) ?_
        rotate_left 1
        · (intro wq hSw; (try dsimp only at hSw); (try simp only [List.getElem_toArray, List.getElem_cons_succ, List.getElem_cons_zero]); go_simp; try with_reducible rfl)
        (try simp only [Act.put, List.getElem_toArray, List.getElem_cons_succ, List.getElem_cons_zero, List.setIfInBounds_toArray, List.set_cons_zero, List.set_cons_succ])
        refine wpAnyH_take (i := 6) (oi := _) (v := ?_) rfl (by kernel_rfl) (by kernel_rfl) (by kernel_rfl) (fun _ _ _ h => h) (Or.inl ⟨by rfl, ?_⟩) (by assumption) ?_
        rotate_left 1
        · (intro wq hSw; (try dsimp only at hSw); (try simp only [List.getElem_toArray, List.getElem_cons_succ, List.getElem_cons_zero]); go_simp; try with_reducible rfl)
        (try simp only [Act.put, List.getElem_toArray, List.getElem_cons_succ, List.getElem_cons_zero, List.setIfInBounds_toArray, List.set_cons_zero, List.set_cons_succ])
        change Hid (Below wr.heap.size wr wr.drew) at HBq
        obtain ⟨wq, hwq⟩ : ∃ wq, wq = wr.drew := ⟨_, rfl⟩
        rw [← hwq] at HBq hHeld ⊢
        clear hwq c0 x0 x1 x2 x3 x4 x5 x6 x7 x8 x9 x10 x11 x12
        obtain ⟨c0, x0, x1, x2, x3, x4, x5, x6, x7, x8, x9, x10, x11, x12⟩ := hHeld
        have hHeld : (fun wx => wx.cell? ⟨b, off + k, none⟩ = some (.int .i64 (d : Int)) ∧ wx.cell? ⟨w.heap.size, 0, none⟩ = some (.int .i64 id) ∧ wx.cell? ⟨w.heap.size, 1, none⟩ = some (.int .i64 tm) ∧ wx.cell? ⟨w.heap.size, 2, none⟩ = some (.int .i64 vo) ∧ wx.cell? ⟨w.heap.size, 3, none⟩ = some (.slice la lg.length lc) ∧ wx.cell? ⟨w.heap.size, 4, none⟩ = some (.slice sa st.length sc) ∧ wx.cell? ⟨w.heap.size, 5, none⟩ = some (.int .i64 ro) ∧ wx.cell? ⟨w.heap.size, 6, none⟩ = some (.slice va vs.length vc) ∧ wx.cell? ⟨w.heap.size, 7, none⟩ = some (.slice na nx.length nc) ∧ wx.cell? ⟨w.heap.size, 8, none⟩ = some (.slice ma mt.length mc) ∧ wx.cell? ⟨w.heap.size, 9, none⟩ = some (.int .i64 cm) ∧ wx.cell? ⟨w.heap.size, 10, none⟩ = some (.int .i64 el) ∧ wx.cell? ⟨w.heap.size, 11, none⟩ = some (.int .i64 wt) ∧ wx.cell? ⟨w.heap.size, 12, none⟩ = some (.bool up)) wq := ⟨c0, x0, x1, x2, x3, x4, x5, x6, x7, x8, x9, x10, x11, x12⟩
        have N6 := hide ((unhide NR).below (unhide HBq))
        have T6 := hide ((unhide TR).trans (T' := fun _ => False) (Touch.ofBelow (unhide HBq)) (fun _ _ e => e.elim))
        have W6 := hide ((unhide HBW).trans ((unhide HBq).mono (unhide HBW).size))
        have hrs6 : w2.heap.size ≤ wq.heap.size := Nat.le_trans hrs (unhide HBq).size
        clear NR TR HBW hrs HBq
        have NR := N6
        have TR := T6
        have HBW := W6
        have hrs := hrs6
        clear N6 T6 W6 hrs6
        refine wpAnyH_done (by kernel_rfl) (NoPanic.normal ?_) _
        go_wp2_with fail
        have HBq := hide (below_drewN (Below.refl wq.heap.size wq) 1)
        refine wp_region_noPanic ?_
        refine wp_region_held_drew (S := (fun wx => wx.cell? ⟨b, off + k, none⟩ = some (.int .i64 (d : Int)) ∧ wx.cell? ⟨w.heap.size, 0, none⟩ = some (.int .i64 id) ∧ wx.cell? ⟨w.heap.size, 1, none⟩ = some (.int .i64 tm) ∧ wx.cell? ⟨w.heap.size, 2, none⟩ = some (.int .i64 vo) ∧ wx.cell? ⟨w.heap.size, 3, none⟩ = some (.slice la lg.length lc) ∧ wx.cell? ⟨w.heap.size, 4, none⟩ = some (.slice sa st.length sc) ∧ wx.cell? ⟨w.heap.size, 5, none⟩ = some (.int .i64 ro) ∧ wx.cell? ⟨w.heap.size, 6, none⟩ = some (.slice va vs.length vc) ∧ wx.cell? ⟨w.heap.size, 7, none⟩ = some (.slice na nx.length nc) ∧ wx.cell? ⟨w.heap.size, 8, none⟩ = some (.slice ma mt.length mc) ∧ wx.cell? ⟨w.heap.size, 9, none⟩ = some (.int .i64 cm) ∧ wx.cell? ⟨w.heap.size, 10, none⟩ = some (.int .i64 el) ∧ wx.cell? ⟨w.heap.size, 11, none⟩ = some (.int .i64 wt) ∧ wx.cell? ⟨w.heap.size, 12, none⟩ = some (.bool up))) (by kernel_rfl) ?_ (fun hHeld => ?_)
        · exact ⟨c0, x0, x1, x2, x3, x4, x5, x6, x7, x8, x9, x10, x11, x12⟩
        refine wpAnyH_take (i := 0) (oi := _) (v := ?_) rfl (by kernel_rfl) (by kernel_rfl) (by kernel_rfl) (fun _ _ _ h => h) (Or.inl ⟨by rfl, ?_⟩) (by assumption) ?_
        rotate_left 1
        · (intro wq hSw; (try dsimp only at hSw); (try simp only [List.getElem_toArray, List.getElem_cons_succ, List.getElem_cons_zero]); go_simp; try with_reducible rfl)
        (try simp only [Act.put, List.getElem_toArray, List.getElem_cons_succ, List.getElem_cons_zero, List.setIfInBounds_toArray, List.set_cons_zero, List.set_cons_succ])
        refine wpAnyH_take (i := 1) (oi := _) (v := ?_) rfl (by kernel_rfl) (by kernel_rfl) (by kernel_rfl) (fun _ _ _ h => h) (Or.inl ⟨by rfl, ?_⟩) (by assumption) ?_
        rotate_left 1
        · (intro wq hSw; (try dsimp only at hSw); (try simp only [List.getElem_toArray, List.getElem_cons_succ, List.getElem_cons_zero]); go_simp; try with_reducible rfl)
        (try simp only [Act.put, List.getElem_toArray, List.getElem_cons_succ, List.getElem_cons_zero, List.setIfInBounds_toArray, List.set_cons_zero, List.set_cons_succ])
        refine wpAnyH_take (i := 2) (oi := _) (v := ?_) rfl (by kernel_rfl) (by kernel_rfl) (by kernel_rfl) (fun _ _ _ h => h) (Or.inl ⟨by rfl, ?_⟩) (by assumption) ?_
        rotate_left 1
        · (intro wq hSw; (try dsimp only at hSw); (try simp only [List.getElem_toArray, List.getElem_cons_succ, List.getElem_cons_zero]); go_simp; try with_reducible rfl)
        (try simp only [Act.put, List.getElem_toArray, List.getElem_cons_succ, List.getElem_cons_zero, List.setIfInBounds_toArray, List.set_cons_zero, List.set_cons_succ])
        refine wpAnyH_take (i := 3) (oi := _) (v := ?_) rfl (by kernel_rfl) (by kernel_rfl) (by kernel_rfl) (fun _ _ _ h => h) (Or.inl ⟨by rfl, ?_⟩) (by assumption) ?_
        rotate_left 1
        · (intro wq hSw; (try dsimp only at hSw); (try simp only [List.getElem_toArray, List.getElem_cons_succ, List.getElem_cons_zero]); go_simp; try with_reducible rfl)
        (try simp only [Act.put, List.getElem_toArray, List.getElem_cons_succ, List.getElem_cons_zero, List.setIfInBounds_toArray, List.set_cons_zero, List.set_cons_succ])
        refine wpAnyH_take (i := 4) (oi := _) (v := ?_) rfl (by kernel_rfl) (by kernel_rfl) (by kernel_rfl) (fun _ _ _ h => h) (Or.inl ⟨by rfl, ?_⟩) (by assumption) ?_
        rotate_left 1
        · (intro wq hSw; (try dsimp only at hSw); (try simp only [List.getElem_toArray, List.getElem_cons_succ, List.getElem_cons_zero]); go_simp; try with_reducible rfl)
        (try simp only [Act.put, List.getElem_toArray, List.getElem_cons_succ, List.getElem_cons_zero, List.setIfInBounds_toArray, List.set_cons_zero, List.set_cons_succ])
        refine wpAnyH_take (i := 5) (oi := _) (v := ?_) rfl (by kernel_rfl) (by kernel_rfl) (by kernel_rfl) (fun _ _ _ h => h) (Or.inl ⟨by rfl, ?_⟩) (by assumption) ?_
        rotate_left 1
        · (intro wq hSw; (try dsimp only at hSw); (try simp only [List.getElem_toArray, List.getElem_cons_succ, List.getElem_cons_zero]); go_simp; try with_reducible rfl)
        (try simp only [Act.put, List.getElem_toArray, List.getElem_cons_succ, List.getElem_cons_zero, List.setIfInBounds_toArray, List.set_cons_zero, List.set_cons_succ])
        change Hid (Below wq.heap.size wq wq.drew) at HBq
        obtain ⟨wz, hwq⟩ : ∃ wz, wz = wq.drew := ⟨_, rfl⟩
        rw [← hwq] at HBq hHeld ⊢
        clear hwq c0 x0 x1 x2 x3 x4 x5 x6 x7 x8 x9 x10 x11 x12
        obtain ⟨c0, x0, x1, x2, x3, x4, x5, x6, x7, x8, x9, x10, x11, x12⟩ := hHeld
        have hHeld : (fun wx => wx.cell? ⟨b, off + k, none⟩ = some (.int .i64 (d : Int)) ∧ wx.cell? ⟨w.heap.size, 0, none⟩ = some (.int .i64 id) ∧ wx.cell? ⟨w.heap.size, 1, none⟩ = some (.int .i64 tm) ∧ wx.cell? ⟨w.heap.size, 2, none⟩ = some (.int .i64 vo) ∧ wx.cell? ⟨w.heap.size, 3, none⟩ = some (.slice la lg.length lc) ∧ wx.cell? ⟨w.heap.size, 4, none⟩ = some (.slice sa st.length sc) ∧ wx.cell? ⟨w.heap.size, 5, none⟩ = some (.int .i64 ro) ∧ wx.cell? ⟨w.heap.size, 6, none⟩ = some (.slice va vs.length vc) ∧ wx.cell? ⟨w.heap.size, 7, none⟩ = some (.slice na nx.length nc) ∧ wx.cell? ⟨w.heap.size, 8, none⟩ = some (.slice ma mt.length mc) ∧ wx.cell? ⟨w.heap.size, 9, none⟩ = some (.int .i64 cm) ∧ wx.cell? ⟨w.heap.size, 10, none⟩ = some (.int .i64 el) ∧ wx.cell? ⟨w.heap.size, 11, none⟩ = some (.int .i64 wt) ∧ wx.cell? ⟨w.heap.size, 12, none⟩ = some (.bool up)) wz := ⟨c0, x0, x1, x2, x3, x4, x5, x6, x7, x8, x9, x10, x11, x12⟩
        have N7 := hide ((unhide NR).below (unhide HBq))
        have T7 := hide ((unhide TR).trans (T' := fun _ => False) (Touch.ofBelow (unhide HBq)) (fun _ _ e => e.elim))
        have W7 := hide ((unhide HBW).trans ((unhide HBq).mono (unhide HBW).size))
        have hrs7 : w2.heap.size ≤ wz.heap.size := Nat.le_trans hrs (unhide HBq).size
        clear NR TR HBW hrs HBq
        have NR := N7
        have TR := T7
        have HBW := W7
        have hrs := hrs7
        clear N7 T7 W7 hrs7
        have hbq : b < wz.heap.size := Nat.lt_of_lt_of_le hbl hrs
        have hwq : w.heap.size < wz.heap.size := by omega
        refine wpAnyH_ready (rs := [6]) (by kernel_rfl) (by simp) ?_
        refine AllReadyH.cons (o := _) rfl (fun K hK => ?_) AllReadyH.nil
        go_simp
        refine (unhide HAp d p wz (unhide HBW) (by omega) (unhide HP) hpl).mono ?_
        rintro e w3 ⟨a5, c5, rfl, hO5, hb3⟩
        rw [List.length_drop] at hO5
        have HO5 := hide hO5
        have HB3 := hide hb3
        go_wp2_with fail
        refine hK.out _ _ ?_ (fun hHeld => ?_)
        · exact ⟨(hb3.cell (p := ⟨b, off + k, none⟩) hbq).trans c0, (hb3.cell (p := ⟨w.heap.size, 0, none⟩) hwq).trans x0, (hb3.cell (p := ⟨w.heap.size, 1, none⟩) hwq).trans x1, (hb3.cell (p := ⟨w.heap.size, 2, none⟩) hwq).trans x2, (hb3.cell (p := ⟨w.heap.size, 3, none⟩) hwq).trans x3, (hb3.cell (p := ⟨w.heap.size, 4, none⟩) hwq).trans x4, (hb3.cell (p := ⟨w.heap.size, 5, none⟩) hwq).trans x5, (hb3.cell (p := ⟨w.heap.size, 6, none⟩) hwq).trans x6, (hb3.cell (p := ⟨w.heap.size, 7, none⟩) hwq).trans x7, (hb3.cell (p := ⟨w.heap.size, 8, none⟩) hwq).trans x8, (hb3.cell (p := ⟨w.heap.size, 9, none⟩) hwq).trans x9, (hb3.cell (p := ⟨w.heap.size, 10, none⟩) hwq).trans x10, (hb3.cell (p := ⟨w.heap.size, 11, none⟩) hwq).trans x11, (hb3.cell (p := ⟨w.heap.size, 12, none⟩) hwq).trans x12⟩
        clear hK K
        (try simp only [Act.put, List.getElem_toArray, List.getElem_cons_succ, List.getElem_cons_zero, List.setIfInBounds_toArray, List.set_cons_zero, List.set_cons_succ])
        clear hO5 hb3
        have HB4 := hide ((Below.refl w3.heap.size w3).alloc (Nat.le_refl _) (.cells #[.int .i64 3, .int .i64 id, .int .i64 (d : Int), .int .i64 tm, .int .i64 (p : Int), .int .i64 (termP lg p), .int .i64 cm, .slice a5 (lg.length - p) c5, .bool false] 59))
        have HR4 := hide (blk_rw (Blk.new w3 #[.int .i64 3, .int .i64 id, .int .i64 (d : Int), .int .i64 tm, .int .i64 (p : Int), .int .i64 (termP lg p), .int .i64 cm, .slice a5 (lg.length - p) c5, .bool false] 59 w3.heap.size rfl))
        refine wpAnyH_ready (rs := [7]) (by kernel_rfl) (by simp) ?_
        refine AllReadyH.cons (o := _) rfl (fun K hK => ?_) AllReadyH.nil
        go_simp
        have hbX := (unhide HB3).trans ((unhide HB4).mono (unhide HB3).size)
        refine hK.out _ _ ?_ (fun hHeld => ?_)
        · exact ⟨(hbX.cell (p := ⟨b, off + k, none⟩) hbq).trans c0, (hbX.cell (p := ⟨w.heap.size, 0, none⟩) hwq).trans x0, (hbX.cell (p := ⟨w.heap.size, 1, none⟩) hwq).trans x1, (hbX.cell (p := ⟨w.heap.size, 2, none⟩) hwq).trans x2, (hbX.cell (p := ⟨w.heap.size, 3, none⟩) hwq).trans x3, (hbX.cell (p := ⟨w.heap.size, 4, none⟩) hwq).trans x4, (hbX.cell (p := ⟨w.heap.size, 5, none⟩) hwq).trans x5, (hbX.cell (p := ⟨w.heap.size, 6, none⟩) hwq).trans x6, (hbX.cell (p := ⟨w.heap.size, 7, none⟩) hwq).trans x7, (hbX.cell (p := ⟨w.heap.size, 8, none⟩) hwq).trans x8, (hbX.cell (p := ⟨w.heap.size, 9, none⟩) hwq).trans x9, (hbX.cell (p := ⟨w.heap.size, 10, none⟩) hwq).trans x10, (hbX.cell (p := ⟨w.heap.size, 11, none⟩) hwq).trans x11, (hbX.cell (p := ⟨w.heap.size, 12, none⟩) hwq).trans x12⟩
        clear hK K hbX
        (try simp only [Act.put, List.getElem_toArray, List.getElem_cons_succ, List.getElem_cons_zero, List.setIfInBounds_toArray, List.set_cons_zero, List.set_cons_succ])
        have hs4 : w3.heap.size < (w3.alloc (.cells #[.int .i64 3, .int .i64 id, .int .i64 (d : Int), .int .i64 tm, .int .i64 (p : Int), .int .i64 (termP lg p), .int .i64 cm, .slice a5 (lg.length - p) c5, .bool false] 59)).heap.size := by simp
        have hs3 := (unhide HB3).size
        generalize w3.alloc (.cells #[.int .i64 3, .int .i64 id, .int .i64 (d : Int), .int .i64 tm, .int .i64 (p : Int), .int .i64 (termP lg p), .int .i64 cm, .slice a5 (lg.length - p) c5, .bool false] 59) = w4 at *
        have HRow := hide (own_kept (T := fun _ => False) (own_kept (T := fun _ => False) (unhide NR).row (Touch.ofBelow (unhide HB3)) (fun _ _ e => e)) (Touch.ofBelow (unhide HB4)) (fun _ _ e => e))
        refine wpAnyH_ready (rs := [8]) (by kernel_rfl) (by simp) ?_
        refine AllReadyH.cons (o := _) rfl (fun K hK => ?_) AllReadyH.nil
        refine step_append_row rfl _ _ _ rfl w.heap.size 59 i1 _ 9 88 Try.underlying30 hj hy0 hy1 hy2 rfl (by omega) u l.length _ rfl (unhide HRow) _ 1 [.int .i64 3, .int .i64 id, .int .i64 (d : Int), .int .i64 tm, .int .i64 (p : Int), .int .i64 (termP lg p), .int .i64 cm, .slice a5 (lg.length - p) c5, .bool false] rfl (unhide HR4) rfl (by simp [Value.oneCell']) (by unfold maxLen; omega) (by omega) (by omega) ?_
        intro a6 c6 w5 hown5 hgrow5 hat5
        obtain ⟨g, rfl⟩ : ∃ g, a6 = some ⟨g, 0, none⟩ := by
          rcases own_shape hown5 with ⟨_, h0⟩ | ⟨g, cap, hq, _⟩
          · omega
          · simp only [Value.slice.injEq] at hq
            exact ⟨g, hq.1⟩
        have hat : u.ownBlock = some g ∨ g = w4.heap.size := by
          rcases hat5 with h | h
          · exact .inl h.symm
          · right; simpa [Value.ownBlock] using h
        have NS := hide (Ns.pushed0 (S := mgS) (x := (⟨3, id, (d : Int), tm, (p : Int), termP lg p, cm, false, lg.drop p, .slice a5 (lg.length - p) c5⟩ : MV)) (unhide NR) (unhide HB3) (fun q hq => by simp only [mgS, mgSubs, List.mem_cons, List.not_mem_nil, or_false] at hq; subst hq; exact unhide HO5) (by simp [mgS, mgSubs]) (unhide HB4) hown5 hgrow5 hat (by omega))
        have T5 := hide (((((unhide TR).trans (T' := fun _ => False) (Touch.ofBelow (unhide HB3)) (fun _ _ e => e.elim)).trans (T' := fun _ => False) (Touch.ofBelow (unhide HB4)) (fun _ _ e => e.elim))).grown hgrow5 (fun q e hq => by have := unhide OR q e; omega))
        have OR5 := hide (show ∀ q, (Value.slice (some ⟨g, 0, none⟩) (l.length + 1) c6).ownBlock = some q → q = w.heap.size + 1 ∨ w2.heap.size ≤ q from fun q hq => by
          have e : q = g := by simp [Value.ownBlock] at hq; omega
          rcases hat with h | h
          · have := unhide OR g h; omega
          · omega)
        have hT := (Touch.refl (fun q => u.ownBlock = some q) w4).grown hgrow5 (fun q e _ => e)
        have hk5 : ∀ (bb o : Nat) (v : Value), bb < w2.heap.size → ¬ bb = w.heap.size + 1 → wz.cell? ⟨bb, o, none⟩ = some v → w5.cell? ⟨bb, o, none⟩ = some v := fun bb o v h1 h2 h3 =>
          (hT.cell (p := ⟨bb, o, none⟩) (show bb < w4.heap.size by omega) (fun e => by have := unhide OR bb e; omega)).trans ((((unhide HB3).trans ((unhide HB4).mono hs3)).cell (p := ⟨bb, o, none⟩) (show bb < wz.heap.size by omega)).trans h3)
        refine hK.out _ _ ?_ (fun hHeld => ?_)
        · exact ⟨hk5 _ _ _ hbl hbn c0, hk5 _ _ _ (by omega) (by omega) x0, hk5 _ _ _ (by omega) (by omega) x1, hk5 _ _ _ (by omega) (by omega) x2, hk5 _ _ _ (by omega) (by omega) x3, hk5 _ _ _ (by omega) (by omega) x4, hk5 _ _ _ (by omega) (by omega) x5, hk5 _ _ _ (by omega) (by omega) x6, hk5 _ _ _ (by omega) (by omega) x7, hk5 _ _ _ (by omega) (by omega) x8, hk5 _ _ _ (by omega) (by omega) x9, hk5 _ _ _ (by omega) (by omega) x10, hk5 _ _ _ (by omega) (by omega) x11, hk5 _ _ _ (by omega) (by omega) x12⟩
        clear hK K hT hk5 hown5 hgrow5 hat5 hat NR TR OR HRow HB3 HB4 HR4 HO5
        (try simp only [Act.put, List.getElem_toArray, List.getElem_cons_succ, List.getElem_cons_zero, List.setIfInBounds_toArray, List.set_cons_zero, List.set_cons_succ])
        refine wpAnyH_take (i := 9) (oi := _) (v := ?_) rfl (by kernel_rfl) (by kernel_rfl) (by kernel_rfl) (fun _ _ _ h => h) (Or.inl ⟨by rfl, ?_⟩) (by assumption) ?_
        rotate_left 1
        · (intro wq hSw; (try dsimp only at hSw); (try simp only [List.getElem_toArray, List.getElem_cons_succ, List.getElem_cons_zero]); go_simp; try with_reducible rfl)
        (try simp only [Act.put, List.getElem_toArray, List.getElem_cons_succ, List.getElem_cons_zero, List.setIfInBounds_toArray, List.set_cons_zero, List.set_cons_succ])
        refine wpAnyH_done (by kernel_rfl) (NoPanic.normal ?_) _
        go_wp2_with fail
        refine ⟨⟨k + 1, l ++ [(⟨3, id, (d : Int), tm, (p : Int), termP lg p, cm, false, lg.drop p, .slice a5 (lg.length - p) c5⟩ : MV)], _, rfl, by omega, by go_num, by simp; omega, hide ?_, OR5, hide ?_, T5⟩, ?_⟩
        · rw [List.length_append]; exact unhide NS
        · rw [List.map_append, unhide LR, unhide HN2, List.map_cons, List.map_nil, unhide HT1]
        · simp [intOf]; omega
    · obtain rfl : k = mb.length := by omega
      have q1 : ¬ (mb.length : Int) < (mb.length : Int) := by omega
      go_wp2_with fail
      refine bodyPost_ret (v := u) (by simp [results, Try.results42, go_sem]) rfl ?_
      have h := unhide LR
      rw [List.take_length] at h
      exact ⟨u, rfl, l, unhide NR, h, unhide HBW⟩
end Go.Proofs.Ytljolldacpkeeaa
