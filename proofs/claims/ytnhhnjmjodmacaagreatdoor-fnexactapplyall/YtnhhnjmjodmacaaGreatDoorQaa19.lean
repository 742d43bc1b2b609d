/- What the proof of the claim needs (joined by program): BrOw AppR. -/
import Derived.Test.YtnhhnjmjodmacaaGreatDoorQaa13
import Derived.Test.YtnhhnjmjodmacaaGreatDoorQaa11
import Derived.Test.YtnhhnjmjodmacaaGreatDoorQaa18
import Derived.Test.YtnhhnjmjodmacaaGreatDoorQaa00
import Derived.Deep.AppendLies
import Derived.Deep.RegionLaw
import Derived.Maps.AppendAt
import Derived.Deep.Upon
namespace Go.Proofs.YtnhhnjmjodmacaaGreatDoor.Sha
set_option maxRecDepth 100000
set_option maxHeartbeats 8000000
open Go.ChangeShapes Go.WideShapes Go.ChangeAt Go.RowKit
set_option linter.unusedVariables false
set_option linter.unusedSimpArgs false
structure Ow (X R O : Nat) (w wr : World) (ax : List Value) (k v : ByteArray) (a : Int) (l : List Br) (j : Nat) (sv : Value) (xs : List Value) (kvf : Nat → Value) (Si : Nat → Nat → Prop) : Prop where
 x : Blk wr X ax
 r : Blk wr R [.string ⟨#[]⟩, .string ⟨#[]⟩, .int .i64 0, .slice none 0 0]
 o : Blk wr O [.string k, .string v, .int .i64 a, sv]
 own : wr.ownsRow (O + 1) 35 4 sv j xs
 row : RowIs xs l kvf j
 kid : ∀ i, i < j → BrO wr (Si i) (kvf i) (l.getD i default).kids
 sep : ∀ i b, i < j → Si i b → O < b ∧ b < wr.heap.size ∧ sv.ownBlock ≠ some b
 dis : ∀ i i' b, i < i' → i' < j → Si i b → ¬ Si i' b
 b : Below X w wr
 s0 : X < R
 s1 : R < O
variable {X R O : Nat} {w wr : World} {ax : List Value} {k v : ByteArray} {a : Int} {l : List Br} {j : Nat} {sv : Value} {xs : List Value} {kvf : Nat → Value} {Si : Nat → Nat → Prop}
theorem Ow.below {wx : World} (h : Ow X R O w wr ax k v a l j sv xs kvf Si) (hb : Below wr.heap.size wr wx) : Ow X R O w wx ax k v a l j sv xs kvf Si :=
 ⟨h.x.below hb, h.r.below hb, h.o.below hb, own_kept (T := fun _ => False) h.own (Touch.ofBelow hb) (fun _ _ h => h), h.row, fun i hi => (h.kid i hi).blw hb, fun i b hi hs => ⟨(h.sep i b hi hs).1, Nat.lt_of_lt_of_le (h.sep i b hi hs).2.1 hb.size, (h.sep i b hi hs).2.2⟩, h.dis, h.b.trans (hb.mono (Nat.le_of_lt h.x.1)), h.s0, h.s1⟩
theorem Ow.push {w6 w7 : World} {Sk : Nat → Prop} {ks : Value} {m : Nat} (h : Ow X R O w w6 ax k v a l j sv xs kvf Si) (ob : Obj) {gg cg : Nat}
  (hk : BrO w6 Sk ks (l.getD j default).kids) (hS : ∀ b, Sk b → m ≤ b ∧ b < w6.heap.size) (hm : O < m) (hSi : ∀ i b, i < j → Si i b → b < m) (hso : ∀ b, sv.ownBlock = some b → b < m)
  (hown : w7.ownsRow (O + 1) 35 4 (.slice (some ⟨gg, 0, none⟩) (j + 1) cg) (j + 1) (xs ++ [.string (l.getD j default).key, .string (l.getD j default).val, .int .i64 (l.getD j default).at_, ks]))
  (hgrow : (w6.alloc ob).grownBy w7 sv.ownBlock) (hat : sv.ownBlock = some gg ∨ gg = w6.heap.size + 1) :
  Blk w7 O [.string k, .string v, .int .i64 a, sv] ∧ Ow X R O w (w7.setCell ⟨O, 3, none⟩ (.slice (some ⟨gg, 0, none⟩) (j + 1) cg)) ax k v a l (j + 1) (.slice (some ⟨gg, 0, none⟩) (j + 1) cg) (xs ++ [.string (l.getD j default).key, .string (l.getD j default).val, .int .i64 (l.getD j default).at_, ks]) (fun i => if i = j then ks else kvf i) (fun i => if i = j then Sk else Si i) := by
 have t1 : Touch (fun q => sv.ownBlock = some q) w6 w7 := ((Touch.refl (fun q => sv.ownBlock = some q) w6).alloc ob).grown hgrow (fun q hq _ => hq)
 have hlt := fun q (hq : sv.ownBlock = some q) => World.ownsRow.lt h.own q hq
 have o7 : Blk w7 O [.string k, .string v, .int .i64 a, sv] := h.o.kept t1 (fun e => by have := (hlt O e).1; omega)
 have t2 : Touch (fun q => sv.ownBlock = some q ∨ q = O) w6 (w7.setCell ⟨O, 3, none⟩ (.slice (some ⟨gg, 0, none⟩) (j + 1) cg)) :=
  (((Touch.refl (fun q => sv.ownBlock = some q ∨ q = O) w6).trans t1 (fun _ _ h => .inl h))).setCell ⟨O, 3, none⟩ _ (fun _ => .inr rfl)
 have h0 := h.s0
 have h1 := h.s1
 have hO := h.o.1
 have hxl : xs.length = j * 4 := h.own.1
 have hgO : gg ≠ O := by
  rcases hat with e | e
  ·have := (hlt gg e).1; omega
  ·omega
 have hsz := t2.size
 refine ⟨o7, ?_⟩
 refine ⟨h.x.kept t2 (fun e => ?_), h.r.kept t2 (fun e => ?_), o7.set 3 _ (by simp), ?_, ?_, ?_, ?_, ?_, h.b.trans (t2.below (Nat.le_of_lt h.x.1) (fun q hq e => ?_)), h0, h1⟩
 ·rcases e with e | e
  ·have := (hlt X e).1; omega
  ·omega
 ·rcases e with e | e
  ·have := (hlt R e).1; omega
  ·omega
 ·exact own_kept (T := fun q => q = O) hown ((Touch.refl (fun q => q = O) w7).setCell ⟨O, 3, none⟩ _ (fun _ => rfl)) (fun q hq e => by
   have e2 : gg = q := by simpa [Value.ownBlock] using hq
   omega)
 ·intro i hi
  by_cases e : i = j
  ·subst e
   dsimp only
   rw [if_pos rfl]
   refine ⟨?_, ?_, ?_, ?_⟩ <;> rw [List.getElem?_append_right (by omega), hxl]
   ·rw [show i * 4 - i * 4 = 0 by omega]; rfl
   ·rw [show i * 4 + 1 - i * 4 = 1 by omega]; rfl
   ·rw [show i * 4 + 2 - i * 4 = 2 by omega]; rfl
   ·rw [show i * 4 + 3 - i * 4 = 3 by omega]; rfl
  ·dsimp only
   rw [if_neg e]
   obtain ⟨e0, e1, e2, e3⟩ := h.row i (by omega)
   rw [List.getElem?_append_left (by omega), List.getElem?_append_left (by omega), List.getElem?_append_left (by omega), List.getElem?_append_left (by omega)]
   exact ⟨e0, e1, e2, e3⟩
 ·intro i hi
  by_cases e : i = j
  ·subst e
   rw [if_pos rfl, if_pos rfl]
   exact hk.touch t2 (fun b hb e => by
    rcases e with e | e
    ·have := hso b e; have := (hS b hb).1; omega
    ·have := (hS b hb).1; omega)
  ·rw [if_neg e, if_neg e]
   exact (h.kid i (by omega)).touch t2 (fun b hb e => by
    rcases e with e | e
    ·exact (h.sep i b (by omega) hb).2.2 e
    ·have := (h.sep i b (by omega) hb).1; omega)
 ·intro i b hi hb
  by_cases e : i = j
  ·subst e
   rw [if_pos rfl] at hb
   have hb2 := hS b hb
   refine ⟨by omega, by omega, fun e2 => ?_⟩
   have e3 : gg = b := by simpa [Value.ownBlock] using e2
   rcases hat with e | e
   ·have := hso gg e; omega
   ·omega
  ·rw [if_neg e] at hb
   have hb2 := h.sep i b (by omega) hb
   refine ⟨hb2.1, by omega, fun e2 => ?_⟩
   have e3 : gg = b := by simpa [Value.ownBlock] using e2
   rcases hat with e | e
   ·exact hb2.2.2 (by rw [e, e3])
   ·omega
 ·intro i i' b hii hi' hb hb2
  by_cases e : i' = j
  ·subst e
   rw [if_pos rfl] at hb2
   rw [if_neg (by omega)] at hb
   have := hSi i b (by omega) hb
   have := (hS b hb2).1
   omega
  ·rw [if_neg e] at hb2
   rw [if_neg (by omega)] at hb
   exact h.dis i i' b hii (by omega) hb hb2
 ·rcases e with e | e
  ·have := (hlt q e).1; omega
  ·omega
theorem Ow.shape (h : Ow X R O w wr ax k v a l j sv xs kvf Si) : ∃ ga gc, sv = .slice ga j gc := by
 rcases h.own.2 with ⟨rfl, h0⟩ | ⟨g, cap, cur, rfl, _⟩
 ·exact ⟨none, 0, by rw [h0]⟩
 ·exact ⟨_, _, rfl⟩
theorem Ow.fin {n : Nat} {ga : Option Addr} {gc : Nat} (h : Ow w.heap.size R O w wr ax k v a l l.length (.slice ga l.length gc) xs kvf Si) (hs : ∀ i, i < l.length → (l.getD i default).key.size ≤ maxLen ∧ (l.getD i default).val.size ≤ maxLen) :
  Blk (set4 wr R (.string k) (.string v) (.int .i64 a) (.slice ga l.length gc)) R [.string k, .string v, .int .i64 a, .slice ga l.length gc] ∧
  BrO (set4 wr R (.string k) (.string v) (.int .i64 a) (.slice ga l.length gc)) (fun x => w.heap.size ≤ x ∧ x < (set4 wr R (.string k) (.string v) (.int .i64 a) (.slice ga l.length gc)).heap.size) (.slice ga l.length gc) l ∧
  Below w.heap.size w (set4 wr R (.string k) (.string v) (.int .i64 a) (.slice ga l.length gc)) := by
 have ht := set4_touch wr R (.string k) (.string v) (.int .i64 a) (.slice ga l.length gc)
 have hts := ht.size
 have h0 := h.s0
 have h1 := h.s1
 refine ⟨set4_blk h.r _ _ _ _, ?_, h.b.trans (ht.below h.b.size (fun q hq e => by omega))⟩
 have hO : BrO wr (fun x => w.heap.size ≤ x ∧ x < wr.heap.size ∧ x ≠ R) (.slice ga l.length gc) l := by
  rcases h.own.2 with ⟨e, h0⟩ | ⟨g, cap, cur, e, hg, r⟩
  ·obtain rfl := List.eq_nil_of_length_eq_zero h0
   cases e
   exact .nil _ _ _ (by unfold maxLen; omega)
  ·have hlt := World.ownsRow.lt h.own
   cases e
   by_cases hl : l.length = 0
   ·obtain rfl := List.eq_nil_of_length_eq_zero hl
    exact .nil _ _ _ r.2.2.1
   have hgl := hlt g rfl
   refine BrO.row _ g gc l kvf xs Si (by omega) ⟨by omega, by omega, by omega⟩ (World.ownsRow.mono h.own (Nat.zero_le _)) h.row hs ?_ h.dis h.kid
   intro i b hi hb
   have h3 := h.sep i b hi hb
   exact ⟨⟨by omega, by omega, by omega⟩, fun e => h3.2.2 (by rw [e]; rfl)⟩
 exact (hO.touch ht (fun q hq e => hq.2.2 e)).mono (fun q hq => ⟨hq.1, by omega⟩)
theorem cnt_len : ∀ l : List Br, l.length ≤ cntL l
 | [] => by simp
 | b :: r => by
  have := cnt_len r
  have := Br.cnt_eq b
  rw [cntL_cons, List.length_cons]
  omega
theorem cnt_kid (l : List Br) (j : Nat) (hj : j < l.length) : cntL (l.getD j default).kids ≤ cntL l := by
 have h1 := cnt_take l j hj
 have h2 := cnt_take_le l (j + 1)
 have h3 := Br.cnt_eq (l.getD j default)
 omega
theorem br_eta (b : Br) : Br.mk b.key b.val b.at_ b.kids = b := by cases b; rfl
theorem l07Own_any {S : Nat → Prop} {w0 : World} {u : Value} {l : List Br} (h : Brs S w0 u l) : ∀ (k v : ByteArray) (a : Int) (w : World), cntL l ≤ 1048576 → Below w0.heap.size w0 w →
  Calls Tryz.prog 63 #[.agg #[.string k, .string v, .int .i64 a, u]] w fun e w' => BranchR (.mk k v a l) w e w' := by
 obtain ⟨i0, hi, hz0, hz1, hz2⟩ := info_parts infoBr
 induction h with
 | nil sa cap hc =>
  intro k v a w hcn hb0
  have HGR : Hid (∀ sa n cap w', BrO w' (fun x => w.heap.size ≤ x ∧ x < w'.heap.size) (.slice sa n cap) [] → Below w.heap.size w w' → BranchR (.mk k v a []) w (.returned (.agg #[.string k, .string v, .int .i64 a, .slice sa n cap])) w') := Hd (fun sa n cap w' h1 hb => ⟨sa, n, cap, rfl, h1, hb⟩)
  have G1 : Hid (Ow w.heap.size (w.heap.size + 1) (w.heap.size + 1 + 1) w (((w.alloc (.cells #[.string k, .string v, .int .i64 a, .slice sa 0 cap] 35)).alloc (.cells #[.string ⟨#[]⟩, .string ⟨#[]⟩, .int .i64 0, .slice none 0 0] 35)).alloc (.cells #[.string k, .string v, .int .i64 a, .slice none 0 0] 35)) [.string k, .string v, .int .i64 a, .slice sa 0 cap] k v a [] 0 (.slice none 0 0) [] (fun _ => undef) (fun _ _ => False)) := Hd
   ⟨((Blk.new w _ _ w.heap.size rfl).alloc _).alloc _, (Blk.new _ _ _ (w.heap.size + 1) (by simp)).alloc _, Blk.new _ _ _ (w.heap.size + 1 + 1) (by simp), World.ownsRow_nil _ _ _ _, fun i hi => absurd hi (by omega), fun i hi => absurd hi (by omega), fun i b hi => absurd hi (by omega), fun i i' b h1 h2 => absurd h2 (by omega), (((Below.refl _ _).alloc (Nat.le_refl _) _).alloc (by simp) _).alloc (by simp; omega) _, by omega, by omega⟩
  clear hb0
  go_enter Tryz.func63, Tryz.ntmps63
  go_wp2_with fail
  generalize ((w.alloc (.cells #[.string k, .string v, .int .i64 a, .slice sa 0 cap] 35)).alloc (.cells #[.string ⟨#[]⟩, .string ⟨#[]⟩, .int .i64 0, .slice none 0 0] 35)).alloc (.cells #[.string k, .string v, .int .i64 a, .slice none 0 0] 35) = w1 at *
  generalize w.heap.size + 1 + 1 = O at *
  generalize w.heap.size + 1 = R at *
  go_loopw [4] (fun i wr => i = .int .i64 0 ∧ wr = w1) (fun _ _ => 0)
  case atStart => exact ⟨rfl, rfl⟩
  case round =>
   obtain ⟨rfl, hwr⟩ := hrel
   subst wr
   have hE := Ow.fin (n := 0) (l := []) (uh G1) (fun i hi => absurd hi (by simp))
   have x3 := (uh G1).x.cell 3 rfl
   have o0 := (uh G1).o.cell 0 rfl
   have o1 := (uh G1).o.cell 1 rfl
   have o2 := (uh G1).o.cell 2 rfl
   have o3 := (uh G1).o.cell 3 rfl
   have r0 := (uh G1).r.cell 0 rfl
   have r1 := (uh G1).r.cell 1 rfl
   have r2 := (uh G1).r.cell 2 rfl
   have r3 := (uh G1).r.cell 3 rfl
   have f0 := (uh G1).r.fro 0
   have f1 := (uh G1).r.fro 1
   have f2 := (uh G1).r.fro 2
   have f3 := (uh G1).r.fro 3
   have z0 := hE.1.cell 0 rfl
   have z1 := hE.1.cell 1 rfl
   have z2 := hE.1.cell 2 rfl
   have z3 := hE.1.cell 3 rfl
   have HE := Hd hE
   unfold set4 at z0 z1 z2 z3
   simp only [List.length_nil] at z0 z1 z2 z3
   clear hE
   go_wp2_with fail
   refine bodyPost_ret (v := .agg #[.string k, .string v, .int .i64 a, .slice none 0 0]) (by simp [results, Tryz.results63, go_sem, z0, z1, z2, z3]) rfl ?_
   exact uh HGR _ _ _ _ (uh HE).2.1 (uh HE).2.2
 | row b off cap l kv p0 p1 p2 p3 p4 p5 p6 p7 ih =>
  intro k v a w hcn hb0
  have HC := Hd (BrAt.mk p3 p4 p5 p6 p7 : BrAt S w0 b off l kv)
  have HI := Hd ih
  have HB0 := Hd hb0
  have HSM := Hd p6
  have hlm : l.length ≤ 9223372036854775807 := by unfold maxLen at p2; omega
  have hlm2 : l.length ≤ maxLen := by omega
  have hlen := cnt_len l
  have HCK := Hd (fun i hi => cnt_kid l i hi)
  have HGR : Hid (∀ sa n cap w', BrO w' (fun x => w.heap.size ≤ x ∧ x < w'.heap.size) (.slice sa n cap) l → Below w.heap.size w w' → BranchR (.mk k v a l) w (.returned (.agg #[.string k, .string v, .int .i64 a, .slice sa n cap])) w') := Hd (fun sa n cap w' h1 hb => ⟨sa, n, cap, rfl, h1, hb⟩)
  have G1 : Hid (Ow w.heap.size (w.heap.size + 1) (w.heap.size + 1 + 1) w (((w.alloc (.cells #[.string k, .string v, .int .i64 a, .slice (some ⟨b, off, none⟩) l.length cap] 35)).alloc (.cells #[.string ⟨#[]⟩, .string ⟨#[]⟩, .int .i64 0, .slice none 0 0] 35)).alloc (.cells #[.string k, .string v, .int .i64 a, .slice none 0 0] 35)) [.string k, .string v, .int .i64 a, .slice (some ⟨b, off, none⟩) l.length cap] k v a l 0 (.slice none 0 0) [] (fun _ => undef) (fun _ _ => False)) := Hd
   ⟨((Blk.new w _ _ w.heap.size rfl).alloc _).alloc _, (Blk.new _ _ _ (w.heap.size + 1) (by simp)).alloc _, Blk.new _ _ _ (w.heap.size + 1 + 1) (by simp), World.ownsRow_nil _ _ _ _, fun i hi => absurd hi (by omega), fun i hi => absurd hi (by omega), fun i b hi => absurd hi (by omega), fun i i' b h1 h2 => absurd h2 (by omega), (((Below.refl _ _).alloc (Nat.le_refl _) _).alloc (by simp) _).alloc (by simp; omega) _, by omega, by omega⟩
  clear p3 p4 p5 p6 p7 ih hb0 p1 p2
  go_enter Tryz.func63, Tryz.ntmps63
  go_wp2_with fail
  generalize ((w.alloc (.cells #[.string k, .string v, .int .i64 a, .slice (some ⟨b, off, none⟩) l.length cap] 35)).alloc (.cells #[.string ⟨#[]⟩, .string ⟨#[]⟩, .int .i64 0, .slice none 0 0] 35)).alloc (.cells #[.string k, .string v, .int .i64 a, .slice none 0 0] 35) = w1 at *
  generalize w.heap.size + 1 + 1 = O at *
  generalize w.heap.size + 1 = R at *
  go_loopw [4] (fun i wr => ∃ (j : Nat) (sv : Value) (xs : List Value) (kvf : Nat → Value) (Si : Nat → Nat → Prop), j ≤ l.length ∧ i = .int .i64 j ∧ Ow w.heap.size R O w wr [.string k, .string v, .int .i64 a, .slice (some ⟨b, off, none⟩) l.length cap] k v a l j sv xs kvf Si) (fun i _ => l.length - (intOf i).toNat)
  case atStart => exact ⟨0, _, _, _, _, Nat.zero_le _, rfl, uh G1⟩
  case round =>
   obtain ⟨j, sv, xs, kvf, Si, hj, rfl, hG⟩ := hrel
   obtain ⟨ga, gc, rfl⟩ := hG.shape
   by_cases hlt : j < l.length
   ·obtain ⟨s0, s1, s2, s3⟩ := (uh HC).cells j hlt
    have hbl := (uh HC).lt
    have hbw := (uh HB0).trans (hG.b.mono (uh HB0).size)
    have c0 := (hbw.cell (p := ⟨b, off + j * 4, none⟩) hbl).trans s0
    have c1 := (hbw.cell (p := ⟨b, off + j * 4 + 1, none⟩) hbl).trans s1
    have c2 := (hbw.cell (p := ⟨b, off + j * 4 + 2, none⟩) hbl).trans s2
    have c3 := (hbw.cell (p := ⟨b, off + j * 4 + 3, none⟩) hbl).trans s3
    obtain ⟨ka, kc, hkv, _, _⟩ := ((uh HC).kids j hlt).shape
    have x3 := hG.x.cell 3 rfl
    have o3 := hG.o.cell 3 rfl
    have hO1 := hG.o.1
    have HRT := Hd (uh HI j hlt (l.getD j default).key (l.getD j default).val (l.getD j default).at_ wr.drew (by have := uh HCK j hlt; omega) (below_drewN hbw 1))
    rw [br_eta, hkv] at HRT
    rw [hkv] at c3
    have HGB := Hd (fun wx (hx : Below wr.heap.size wr wx) => hG.below hx)
    have HSI := Hd (fun i b hi hb => (hG.sep i b hi hb).2.1)
    have HSO := Hd (fun b hb => (World.ownsRow.lt hG.own b hb).2)
    have hxl : xs.length = j * 4 := hG.own.1
    have k0 : (0 : Int) ≤ (j : Int) := by omega
    have k1 : (j : Int) < (l.length : Int) := by omega
    have hj2 : j + 1 ≤ maxLen := by omega
    clear s0 s1 s2 s3 hbw hG hkv
    obtain ⟨kb, hkb⟩ : ∃ kb, kb = l.getD j default := ⟨_, rfl⟩
    rw [← hkb] at c0 c1 c2 c3 HRT
    have HKB := Hd hkb
    clear hkb
    go_wp2_with fail
    go_region_law (first
     | (go_simp; go_at_call 63; refine (uh HRT).mono ?_; rintro e w6 ⟨s1, n1, e1, rfl, hO6, hb6⟩; have hb6' : Below wr.heap.size wr w6 := (below_drewN (Below.refl _ wr) 1).trans hb6; have G6 := uh HGB w6 hb6'; have k3 := G6.o.cell 3 rfl; have k4 := ((bal w6 (.cells #[.string kb.key, .string kb.val, .int .i64 kb.at_, .slice s1 n1 e1] 35)).cell (p := ⟨O, 3, none⟩) G6.o.1).trans k3; go_simp)
     | (refine step_append_lies _ (by rfl) _ _ _ (by rfl) (O + 1) 35 i0 _ 4 64 Tryz.underlying33 hi hz0 hz1 hz2 rfl (by omega) (.slice ga j gc) j xs (by rfl) (own_kept (T := fun _ => False) G6.own ((Touch.refl _ _).alloc (.cells #[.string kb.key, .string kb.val, .int .i64 kb.at_, .slice s1 n1 e1] 35)) (fun _ _ h => h)) ⟨w6.heap.size, 0, none⟩ 1 1 [.string kb.key, .string kb.val, .int .i64 kb.at_, .slice s1 n1 e1] (by rfl) (by rfl) (World.news_of_block (cs := #[.string kb.key, .string kb.val, .int .i64 kb.at_, .slice s1 n1 e1]) (t := 35) (fr := (0, 0)) (heap_alloc_new w6 _)) (by simp [Value.oneCell']) (by omega) hj2 (by omega) (by have := G6.o.1; simp; omega) (w6.heap.size + 1) (by simp) ?_; intro gg cg w7 hown7 hgrow7 hat7 hlt7; rw [uh HKB] at hown7 hO6; obtain ⟨O7, G7⟩ := G6.push _ hO6 (fun b hb => hb) hO1 (uh HSI) (uh HSO) hown7 hgrow7 hat7; have k7 := O7.cell 3 rfl; have f7 := O7.fro 3))
    all_goals
     have HG7 := Hd G7
     clear k3 k4 k7 f7 O7 G7 G6 hown7 hgrow7 hat7 hlt7 hb6 hb6' hO6 x3 o3 c0 c1 c2 c3
     go_wp2_with fail
     refine ⟨⟨j + 1, _, _, _, _, by omega, by go_num, uh HG7⟩, ?_⟩
     simp [intOf]; omega
   ·obtain rfl : j = l.length := by omega
    have hE := Ow.fin (n := 0) hG (uh HSM)
    have G1 := Hd hG
    clear hG
    have x3 := (uh G1).x.cell 3 rfl
    have o0 := (uh G1).o.cell 0 rfl
    have o1 := (uh G1).o.cell 1 rfl
    have o2 := (uh G1).o.cell 2 rfl
    have o3 := (uh G1).o.cell 3 rfl
    have r0 := (uh G1).r.cell 0 rfl
    have r1 := (uh G1).r.cell 1 rfl
    have r2 := (uh G1).r.cell 2 rfl
    have r3 := (uh G1).r.cell 3 rfl
    have f0 := (uh G1).r.fro 0
    have f1 := (uh G1).r.fro 1
    have f2 := (uh G1).r.fro 2
    have f3 := (uh G1).r.fro 3
    have z0 := hE.1.cell 0 rfl
    have z1 := hE.1.cell 1 rfl
    have z2 := hE.1.cell 2 rfl
    have z3 := hE.1.cell 3 rfl
    have HE := Hd hE
    unfold set4 at z0 z1 z2 z3
    clear hE
    go_wp2_with fail
    refine bodyPost_ret (v := .agg #[.string k, .string v, .int .i64 a, .slice ga l.length gc]) (by simp [results, Tryz.results63, go_sem, z0, z1, z2, z3]) rfl ?_
    exact uh HGR _ _ _ _ (uh HE).2.1 (uh HE).2.2
end Go.Proofs.YtnhhnjmjodmacaaGreatDoor.Sha
namespace Go.Proofs.YtnhhnjmjodmacaaGreatDoor
set_option maxRecDepth 100000
set_option maxHeartbeats 8000000
open Go.ChangeShapes Go.WideShapes Go.ChangeAt Go.RowKit
set_option linter.unusedVariables false
def Rw (w : World) (x : Value) (m : Nat) (news : List Value) : Prop := ∃ a cap, x = .slice a m cap ∧ (m = 0 ∨ ∃ ad : Addr, a = some ad ∧ ∀ j u, news[j]? = some u → w.cell? (ad.add j) = some u)
theorem run_append_row {P : Program} (w : World) (base : Nat) (t ty e : TypeId) (i : TypeInfo) (z : Value) (size bytes : Nat) (ht : P.underlying t = some (.slice e)) (hi : P.info? e = some i) (hz : i.zero = some z) (hsize : i.size = size) (hby : i.bytes = bytes) (hzs : z.cells.size = size) (hsz : 0 < size)
  (v : Value) (n : Nat) (xs : List Value) (hown : w.ownsRow base e size v n xs) (x : Value) (m : Nat) (news : List Value) (hR : Rw w x m news) (hl : news.length = m * size) (h1 : ∀ u ∈ news, u.oneCell' = true) (h63 : n + m ≤ maxLen) (hb : (n + m) * bytes ≤ 140737488355328) (hbase : base ≤ w.heap.size) :
  ∃ a' c' w', (Builtin.append_ #[t, t] ty #[v, x]).run P w = .ok (.slice a' (n + m) c') w' ∧ w'.ownsRow base e size (.slice a' (n + m) c') (n + m) (xs ++ news) ∧ w.grownBy w' v.ownBlock ∧ ((Value.slice a' (n + m) c').ownBlock = v.ownBlock ∨ (Value.slice a' (n + m) c').ownBlock = some w.heap.size) := by
 have key : ∃ v' w', (Builtin.append_ #[t, t] ty #[v, x]).run P w = .ok v' w' ∧ w'.ownsRow base e size v' (n + m) (xs ++ news) ∧ w.grownBy w' v.ownBlock ∧ (v'.ownBlock = v.ownBlock ∨ v'.ownBlock = some w.heap.size) := by
  obtain ⟨a, cap, rfl, hc⟩ := hR
  cases a with
  | none =>
   have hm0 : m = 0 := by
    rcases hc with h0 | ⟨ad, ha, _⟩
    ·exact h0
    ·cases ha
   subst hm0
   have hn0 : news = [] := List.eq_nil_of_length_eq_zero (by omega)
   subst hn0
   refine ⟨v, w, ?_, by simpa using hown, World.grownBy.refl _ _, .inl rfl⟩
   rcases hown.2 with ⟨rfl, _⟩ | ⟨g, cp, cur, rfl, _, _, hnc, _⟩
   ·exact Go.run_append_nothing w t t ty e i ht hi none 0 0 (Nat.le_refl _) _ (Go.Src.ofNil (w := w) ht cap)
   ·exact Go.run_append_nothing w t t ty e i ht hi _ n cp hnc _ (Go.Src.ofNil (w := w) ht cap)
  | some ad =>
   have hnews : ∀ j u, news[j]? = some u → w.cell? (ad.add j) = some u := fun j u hu => by
    rcases hc with h0 | ⟨b, ha, hcell⟩
    ·subst h0
     have hn0 : news = [] := List.eq_nil_of_length_eq_zero (by omega)
     rw [hn0] at hu; cases hu
    ·cases ha; exact hcell j u hu
   obtain ⟨v', w', hr', h2, h3, h4, h5⟩ := run_append_own_at (P := P) w base t ty e i z size bytes ht hi hz hsize hby hzs hsz v n xs hown ad m cap news hl hnews h1 h63 hb hbase
   exact ⟨v', w', hr', h2, h3, h5⟩
 obtain ⟨v', w', hr', h2, h3, h4⟩ := key
 rcases own_shape h2 with ⟨rfl, h0⟩ | ⟨g, c, rfl, _⟩
 ·rw [h0] at h2 ⊢
  exact ⟨none, 0, w', hr', h2, h3, h4⟩
 ·exact ⟨_, _, w', hr', h2, h3, h4⟩
theorem step_append_row {P : Program} {w : World} {ops : Array Oper} {o : Oper} {a : Act} {K : Act → World → Prop} {Q : Exit → Act → World → Prop} {E : Prop} (hgd : o.guard = none) (s x : Operand) (t : TypeId)
  (ho : o.op = .call { callee := .builtin .append, args := #[s, x], argTypes := #[t, t] })
  (base : Nat) (e : TypeId) (i : TypeInfo) (z : Value) (size bytes : Nat) (ht : P.underlying t = some (.slice e)) (hi : P.info? e = some i) (hz : i.zero = some z) (hsize : i.size = size) (hby : i.bytes = bytes) (hzs : z.cells.size = size) (hsz : 0 < size)
  (v : Value) (n : Nat) (xs : List Value) (hs : a.eval s = v) (hown : w.ownsRow base e size v n xs) (xv : Value) (m : Nat) (news : List Value) (hx : a.eval x = xv) (hR : Rw w xv m news) (hl : news.length = m * size) (h1 : ∀ u ∈ news, u.oneCell' = true) (h63 : n + m ≤ maxLen) (hb : (n + m) * bytes ≤ 140737488355328) (hbase : base ≤ w.heap.size)
  (h : ∀ a' c' w', w'.ownsRow base e size (.slice a' (n + m) c') (n + m) (xs ++ news) → w.grownBy w' v.ownBlock → ((Value.slice a' (n + m) c').ownBlock = v.ownBlock ∨ (Value.slice a' (n + m) c').ownBlock = some w.heap.size) → K (a.put o.dst (.slice a' (n + m) c')) w') :
  if Region.wanted o (yielded ops a.tmps) = true then Oper.wp P o a w K Q else E := by
 have hw : Region.wanted o (yielded ops a.tmps) = true := by simp [Region.wanted, hgd]
 rw [if_pos hw]
 obtain ⟨a', c', w', hr, h2, h3, h4⟩ := run_append_row (P := P) w base t o.type e i z size bytes ht hi hz hsize hby hzs hsz v n xs hown xv m news hR hl h1 h63 hb hbase
 unfold Oper.wp execOp
 simp only [ho, resolve, invoke, builtin, Sem.run_bind, Sem.run_pure, Result.andThen_ok, List.map_toArray, List.map_cons, List.map_nil, hs, hx, hr]
 exact h a' c' w' h2 h3 h4
theorem wpList_append_row {P : Program} (w : World) {ops : Array Oper} {rest : List Oper} {o : Oper} {a : Act} {Q : Exit → Act → World → Prop} (hgd : o.guard = none) (s x : Operand) (t : TypeId)
  (ho : o.op = .call { callee := .builtin .append, args := #[s, x], argTypes := #[t, t] })
  (base : Nat) (e : TypeId) (i : TypeInfo) (z : Value) (size bytes : Nat) (ht : P.underlying t = some (.slice e)) (hi : P.info? e = some i) (hz : i.zero = some z) (hsize : i.size = size) (hby : i.bytes = bytes) (hzs : z.cells.size = size) (hsz : 0 < size)
  (v : Value) (n : Nat) (xs : List Value) (hs : a.eval s = v) (hown : w.ownsRow base e size v n xs) (xv : Value) (m : Nat) (news : List Value) (hx : a.eval x = xv) (hR : Rw w xv m news) (hl : news.length = m * size) (h1 : ∀ u ∈ news, u.oneCell' = true) (h63 : n + m ≤ maxLen) (hb : (n + m) * bytes ≤ 140737488355328) (hbase : base ≤ w.heap.size)
  (h : ∀ a' c' w', w'.ownsRow base e size (.slice a' (n + m) c') (n + m) (xs ++ news) → w.grownBy w' v.ownBlock → ((Value.slice a' (n + m) c').ownBlock = v.ownBlock ∨ (Value.slice a' (n + m) c').ownBlock = some w.heap.size) → wpList P ops Q rest (a.put o.dst (.slice a' (n + m) c')) w') :
  wpList P ops Q (o :: rest) a w := by
 refine wpList_plain hgd fun K hK => ?_
 obtain ⟨a', c', w', hr, h2, h3, h4⟩ := run_append_row (P := P) w base t o.type e i z size bytes ht hi hz hsize hby hzs hsz v n xs hown xv m news hR hl h1 h63 hb hbase
 unfold Oper.wp execOp
 simp only [ho, resolve, invoke, builtin, Sem.run_bind, Sem.run_pure, Result.andThen_ok, List.map_toArray, List.map_cons, List.map_nil, hs, hx, hr]
 exact hK _ _ (h a' c' w' h2 h3 h4)
theorem Strs.rw {w : World} {v : Value} {l : List ByteArray} (h : Strs w v l) : Rw w v l.length (l.map Value.string) := by
 obtain ⟨a, cap, rfl, hm, hc⟩ := h
 refine ⟨a, cap, rfl, ?_⟩
 rcases hc with h0 | ⟨b, off, rfl, hlt, hc⟩
 ·exact .inl h0
 ·refine .inr ⟨_, rfl, fun j u hu => ?_⟩
  have hadd : (⟨b, off, none⟩ : Addr).add j = ⟨b, off + j, none⟩ := by unfold Addr.add; split <;> simp_all
  rw [List.getElem?_map] at hu
  by_cases hj : j < l.length
  ·rw [hadd, hc j hj]
   rw [List.getElem?_eq_getElem hj] at hu
   rw [List.getD_eq_getElem?_getD, List.getElem?_eq_getElem hj]
   simpa using hu
  ·rw [List.getElem?_eq_none (by omega)] at hu; cases hu
end Go.Proofs.YtnhhnjmjodmacaaGreatDoor
