/- What the proof of the claim needs (joined by program): AppR BrDp BrIn. -/
import Derived.Test.YtbchnheinnileaaGreatDoorQca00
import Derived.Test.YtbchnheinnileaaGreatDoorQca05
import Derived.Test.YtbchnheinnileaaGreatDoorQca07
import Derived.Test.YtbchnheinnileaaGreatDoorQca06
import Derived.Maps.AppendAt
import Derived.Deep.Upon
import Derived.Deep.DeepCutAuto
namespace Go.Proofs.YtbchnheinnileaaGreatDoor
set_option maxRecDepth 100000
set_option maxHeartbeats 8000000
open Go.ChangeShapes Go.WideShapes Go.ChangeAt Go.RowKit
set_option linter.unusedVariables false
def Rw (w : World) (x : Value) (m : Nat) (news : List Value) : Prop := ∃ a cap, x = .slice a m cap ∧ (m = 0 ∨ ∃ ad : Addr, a = some ad ∧ ∀ j u, news[j]? = some u → w.cell? (ad.add j) = some u)
theorem run_append_row {P : Program} (w : World) (base : Nat) (t ty e : TypeId) (i : TypeInfo) (z : Value) (size bytes : Nat) (ht : P.underlying t = some (.slice e)) (hi : P.info? e = some i) (hz : i.zero = some z) (hsize : i.size = size) (hby : i.bytes = bytes) (hzs : z.cells.size = size) (hsz : 0 < size)
  (v : Value) (n : Nat) (xs : List Value) (hown : w.ownsRow base e size v n xs) (x : Value) (m : Nat) (news : List Value) (hR : Rw w x m news) (hl : news.length = m * size) (h1 : ∀ u ∈ news, u.oneCell' = true) (h63 : n + m ≤ maxLen) (hb : (n + m) * bytes ≤ 140737488355328) (hbase : base ≤ w.heap.size) :
  ∃ a' c' w', (Builtin.append_ #[t, t] ty #[v, x]).run P w = .ok (.slice a' (n + m) c') w' ∧ w'.ownsRow base e size (.slice a' (n + m) c') (n + m) (xs ++ news) ∧ w.grownBy w' v.ownBlock ∧ ((Value.slice a' (n + m) c').ownBlock = v.ownBlock ∨ (Value.slice a' (n + m) c').ownBlock = some w.heap.size) := by
 have key : ∃ v' w', (Builtin.append_ #[t, t] ty #[v, x]).run P w = .ok v' w' ∧ w'.ownsRow base e size v' (n + m) (xs ++ news) ∧ w.grownBy w' v.ownBlock ∧ (v'.ownBlock = v.ownBlock ∨ v'.ownBlock = some w.heap.size) := by
  obtain ⟨a, cap, rfl, hc⟩ := hR
  cases a with
  | none =>
   have hm0 : m = 0 := by
    rcases hc with h0 | ⟨ad, ha, _⟩
    ·exact h0
    ·cases ha
   subst hm0
   have hn0 : news = [] := List.eq_nil_of_length_eq_zero (by omega)
   subst hn0
   refine ⟨v, w, ?_, by simpa using hown, World.grownBy.refl _ _, .inl rfl⟩
   rcases hown.2 with ⟨rfl, _⟩ | ⟨g, cp, cur, rfl, _, _, hnc, _⟩
   ·exact Go.run_append_nothing w t t ty e i ht hi none 0 0 (Nat.le_refl _) _ (Go.Src.ofNil (w := w) ht cap)
   ·exact Go.run_append_nothing w t t ty e i ht hi _ n cp hnc _ (Go.Src.ofNil (w := w) ht cap)
  | some ad =>
   have hnews : ∀ j u, news[j]? = some u → w.cell? (ad.add j) = some u := fun j u hu => by
    rcases hc with h0 | ⟨b, ha, hcell⟩
    ·subst h0
     have hn0 : news = [] := List.eq_nil_of_length_eq_zero (by omega)
     rw [hn0] at hu; cases hu
    ·cases ha; exact hcell j u hu
   obtain ⟨v', w', hr', h2, h3, h4, h5⟩ := run_append_own_at (P := P) w base t ty e i z size bytes ht hi hz hsize hby hzs hsz v n xs hown ad m cap news hl hnews h1 h63 hb hbase
   exact ⟨v', w', hr', h2, h3, h5⟩
 obtain ⟨v', w', hr', h2, h3, h4⟩ := key
 rcases own_shape h2 with ⟨rfl, h0⟩ | ⟨g, c, rfl, _⟩
 ·rw [h0] at h2 ⊢
  exact ⟨none, 0, w', hr', h2, h3, h4⟩
 ·exact ⟨_, _, w', hr', h2, h3, h4⟩
theorem step_append_row {P : Program} {w : World} {ops : Array Oper} {o : Oper} {a : Act} {K : Act → World → Prop} {Q : Exit → Act → World → Prop} {E : Prop} (hgd : o.guard = none) (s x : Operand) (t : TypeId)
  (ho : o.op = .call { callee := .builtin .append, args := #[s, x], argTypes := #[t, t] })
  (base : Nat) (e : TypeId) (i : TypeInfo) (z : Value) (size bytes : Nat) (ht : P.underlying t = some (.slice e)) (hi : P.info? e = some i) (hz : i.zero = some z) (hsize : i.size = size) (hby : i.bytes = bytes) (hzs : z.cells.size = size) (hsz : 0 < size)
  (v : Value) (n : Nat) (xs : List Value) (hs : a.eval s = v) (hown : w.ownsRow base e size v n xs) (xv : Value) (m : Nat) (news : List Value) (hx : a.eval x = xv) (hR : Rw w xv m news) (hl : news.length = m * size) (h1 : ∀ u ∈ news, u.oneCell' = true) (h63 : n + m ≤ maxLen) (hb : (n + m) * bytes ≤ 140737488355328) (hbase : base ≤ w.heap.size)
  (h : ∀ a' c' w', w'.ownsRow base e size (.slice a' (n + m) c') (n + m) (xs ++ news) → w.grownBy w' v.ownBlock → ((Value.slice a' (n + m) c').ownBlock = v.ownBlock ∨ (Value.slice a' (n + m) c').ownBlock = some w.heap.size) → K (a.put o.dst (.slice a' (n + m) c')) w') :
  if Region.wanted o (yielded ops a.tmps) = true then Oper.wp P o a w K Q else E := by
 have hw : Region.wanted o (yielded ops a.tmps) = true := by simp [Region.wanted, hgd]
 rw [if_pos hw]
 obtain ⟨a', c', w', hr, h2, h3, h4⟩ := run_append_row (P := P) w base t o.type e i z size bytes ht hi hz hsize hby hzs hsz v n xs hown xv m news hR hl h1 h63 hb hbase
 unfold Oper.wp execOp
 simp only [ho, resolve, invoke, builtin, Sem.run_bind, Sem.run_pure, Result.andThen_ok, List.map_toArray, List.map_cons, List.map_nil, hs, hx, hr]
 exact h a' c' w' h2 h3 h4
theorem wpList_append_row {P : Program} (w : World) {ops : Array Oper} {rest : List Oper} {o : Oper} {a : Act} {Q : Exit → Act → World → Prop} (hgd : o.guard = none) (s x : Operand) (t : TypeId)
  (ho : o.op = .call { callee := .builtin .append, args := #[s, x], argTypes := #[t, t] })
  (base : Nat) (e : TypeId) (i : TypeInfo) (z : Value) (size bytes : Nat) (ht : P.underlying t = some (.slice e)) (hi : P.info? e = some i) (hz : i.zero = some z) (hsize : i.size = size) (hby : i.bytes = bytes) (hzs : z.cells.size = size) (hsz : 0 < size)
  (v : Value) (n : Nat) (xs : List Value) (hs : a.eval s = v) (hown : w.ownsRow base e size v n xs) (xv : Value) (m : Nat) (news : List Value) (hx : a.eval x = xv) (hR : Rw w xv m news) (hl : news.length = m * size) (h1 : ∀ u ∈ news, u.oneCell' = true) (h63 : n + m ≤ maxLen) (hb : (n + m) * bytes ≤ 140737488355328) (hbase : base ≤ w.heap.size)
  (h : ∀ a' c' w', w'.ownsRow base e size (.slice a' (n + m) c') (n + m) (xs ++ news) → w.grownBy w' v.ownBlock → ((Value.slice a' (n + m) c').ownBlock = v.ownBlock ∨ (Value.slice a' (n + m) c').ownBlock = some w.heap.size) → wpList P ops Q rest (a.put o.dst (.slice a' (n + m) c')) w') :
  wpList P ops Q (o :: rest) a w := by
 refine wpList_plain hgd fun K hK => ?_
 obtain ⟨a', c', w', hr, h2, h3, h4⟩ := run_append_row (P := P) w base t o.type e i z size bytes ht hi hz hsize hby hzs hsz v n xs hown xv m news hR hl h1 h63 hb hbase
 unfold Oper.wp execOp
 simp only [ho, resolve, invoke, builtin, Sem.run_bind, Sem.run_pure, Result.andThen_ok, List.map_toArray, List.map_cons, List.map_nil, hs, hx, hr]
 exact hK _ _ (h a' c' w' h2 h3 h4)
theorem Strs.rw {w : World} {v : Value} {l : List ByteArray} (h : Strs w v l) : Rw w v l.length (l.map Value.string) := by
 obtain ⟨a, cap, rfl, hm, hc⟩ := h
 refine ⟨a, cap, rfl, ?_⟩
 rcases hc with h0 | ⟨b, off, rfl, hlt, hc⟩
 ·exact .inl h0
 ·refine .inr ⟨_, rfl, fun j u hu => ?_⟩
  have hadd : (⟨b, off, none⟩ : Addr).add j = ⟨b, off + j, none⟩ := by unfold Addr.add; split <;> simp_all
  rw [List.getElem?_map] at hu
  by_cases hj : j < l.length
  ·rw [hadd, hc j hj]
   rw [List.getElem?_eq_getElem hj] at hu
   rw [List.getD_eq_getElem?_getD, List.getElem?_eq_getElem hj]
   simpa using hu
  ·rw [List.getElem?_eq_none (by omega)] at hu; cases hu
end Go.Proofs.YtbchnheinnileaaGreatDoor
namespace Go.Proofs.YtbchnheinnileaaGreatDoor.Sha
set_option maxRecDepth 100000
set_option maxHeartbeats 8000000
open Go.ChangeShapes Go.WideShapes Go.ChangeAt Go.RowKit
set_option linter.unusedVariables false
set_option linter.unusedSimpArgs false
def DrR (B0 : Nat → Prop) (b : Br) (w : World) (e : Ending) (w' : World) : Prop := ∃ sa n cap, e = .returned (.agg #[.string b.key, .string b.val, .int .i64 b.at_, .slice sa n cap]) ∧ Brs (fun x => B0 x ∨ w.heap.size ≤ x) w' (.slice sa n cap) b.kids ∧ Below w.heap.size w w'
def repl (kb a : Nat) (hv : ByteArray) (l r tq : Tr) : Option Tr → Tr
 | none => tq
 | some t' => if kb = 0 then .fork a hv t' r else .fork a hv l t'
theorem drop_0 (h : ByteArray) (a : Nat) (hv : ByteArray) (l r : Tr) (hb : bitN h a = 0) : dropT h (.fork a hv l r) = some (repl 0 a hv l r r (dropT h l)) := by
 have e : dropT h (.fork a hv l r) = if bitN h a = 0 then (match dropT h l with | none => some r | some l' => some (.fork a hv l' r)) else (match dropT h r with | none => some l | some r' => some (.fork a hv l r')) := rfl
 rw [e, if_pos hb]
 cases dropT h l <;> rfl
theorem drop_1 (h : ByteArray) (a : Nat) (hv : ByteArray) (l r : Tr) (hb : bitN h a = 1) : dropT h (.fork a hv l r) = some (repl 1 a hv l r l (dropT h r)) := by
 have e : dropT h (.fork a hv l r) = if bitN h a = 0 then (match dropT h l with | none => some r | some l' => some (.fork a hv l' r)) else (match dropT h r with | none => some l | some r' => some (.fork a hv l r')) := rfl
 rw [e, if_neg (by omega)]
 cases dropT h r <;> rfl
theorem grown6 {w w5 w6 : World} {E : Nat} (hb : Below w.heap.size w w5) (hg : w5.grownBy w6 (some E)) (hE : w.heap.size ≤ E) : Below w.heap.size w w6 := hb.grown hg hb.size (fun r hr => by cases hr; exact hE)
theorem grownT {w5 w6 : World} {E : Nat} (hg : w5.grownBy w6 (some E)) : Touch (fun q => q = E) w5 w6 := (Touch.refl (fun q => q = E) w5).grown hg (fun q hq _ => by cases hq; rfl)
def row2 (b0 b1 : Br) (v0 v1 : Value) : List Value := [.string b0.key, .string b0.val, .int .i64 b0.at_, v0, .string b1.key, .string b1.val, .int .i64 b1.at_, v1]
theorem brs_two {T : Nat → Prop} {B g c : Nat} {w : World} {b0 b1 : Br} {v0 v1 : Value} (h : w.ownsRow B 30 4 (.slice (some ⟨g, 0, none⟩) 2 c) 2 (row2 b0 b1 v0 v1)) (z0 : b0.key.size ≤ maxLen ∧ b0.val.size ≤ maxLen) (z1 : b1.key.size ≤ maxLen ∧ b1.val.size ≤ maxLen) (k0 : Brs T w v0 b0.kids) (k1 : Brs T w v1 b1.kids) (hT : T g) :
  Brs T w (.slice (some ⟨g, 0, none⟩) 2 c) [b0, b1] := by
 obtain ⟨hl, hc⟩ := id h
 rcases hc with ⟨hx, _⟩ | ⟨g', cap', cur, hv, hb, hg, hn, hm, hz, ht⟩
 ·cases hx
 ·simp only [Value.slice.injEq, Option.some.injEq, Addr.mk.injEq] at hv
  obtain ⟨⟨rfl, _, _⟩, _, rfl⟩ := hv
  refine .row g 0 c [b0, b1] (fun i => if i = 0 then v0 else v1) (by simp) hn hm (Array.getElem?_eq_some_iff.1 hg).1 hT (fun i hi => ?_) (fun i hi => ?_) (fun i hi => ?_)
  ·have hi2 : i < 2 := hi
   rw [Nat.zero_add]
   rcases (show i = 0 ∨ i = 1 by omega) with rfl | rfl
   ·exact ⟨(h.cellAt 0 (by omega)).trans rfl, (h.cellAt 1 (by omega)).trans rfl, (h.cellAt 2 (by omega)).trans rfl, (h.cellAt 3 (by omega)).trans rfl⟩
   ·exact ⟨(h.cellAt 4 (by omega)).trans rfl, (h.cellAt 5 (by omega)).trans rfl, (h.cellAt 6 (by omega)).trans rfl, (h.cellAt 7 (by omega)).trans rfl⟩
  ·have hi2 : i < 2 := hi
   rcases (show i = 0 ∨ i = 1 by omega) with rfl | rfl
   ·exact z0
   ·exact z1
  ·have hi2 : i < 2 := hi
   rcases (show i = 0 ∨ i = 1 by omega) with rfl | rfl
   ·exact k0
   ·exact k1
theorem drop_some (h : ByteArray) (a : Nat) (hv : ByteArray) (l r : Tr) : ∃ t', dropT h (.fork a hv l r) = some t' := by
 rcases bitN_01 h a with hb | hb
 ·exact ⟨_, drop_0 h a hv l r hb⟩
 ·exact ⟨_, drop_1 h a hv l r hb⟩
theorem row2_rw {S : Nat → Prop} {w wx : World} {bb off cap : Nat} {b0 b1 : Br} {kvf : Nat → Value} (h : BrAt S w bb off [b0, b1] kvf) (hb : Below w.heap.size w wx) : Rw wx (.slice (some ⟨bb, off, none⟩) 2 cap) 2 (row2 b0 b1 (kvf 0) (kvf 1)) := by
 obtain ⟨s0, s1, s2, s3⟩ := h.cells 0 (by simp)
 obtain ⟨d0, d1, d2, d3⟩ := h.cells 1 (by simp)
 have e : ∀ i, wx.cell? ⟨bb, i, none⟩ = w.cell? ⟨bb, i, none⟩ := fun i => hb.cell (p := ⟨bb, i, none⟩) h.lt
 have ea : ∀ i, (⟨bb, off, none⟩ : Addr).add i = ⟨bb, off + i, none⟩ := fun i => by unfold Addr.add; split <;> simp_all
 refine ⟨_, cap, rfl, .inr ⟨_, rfl, fun j u hj => ?_⟩⟩
 rw [ea, e]
 have hj8 : j < 8 := (List.getElem?_eq_some_iff.1 hj).1
 simp only [Nat.zero_mul, Nat.add_zero, Nat.one_mul] at s0 s1 s2 s3 d0 d1 d2 d3
 rcases (show j = 0 ∨ j = 1 ∨ j = 2 ∨ j = 3 ∨ j = 4 ∨ j = 5 ∨ j = 6 ∨ j = 7 by omega) with rfl | rfl | rfl | rfl | rfl | rfl | rfl | rfl <;> (cases hj; assumption)
theorem row2_one {b0 b1 : Br} {a0 a1 : Option Addr} {n0 n1 c0 c1 : Nat} : ∀ u ∈ row2 b0 b1 (.slice a0 n0 c0) (.slice a1 n1 c1), u.oneCell' = true := by
 intro u hu
 simp only [row2, List.mem_cons, List.not_mem_nil, or_false] at hu
 rcases hu with rfl | rfl | rfl | rfl | rfl | rfl | rfl | rfl <;> rfl
theorem l07Drop_any (h key : ByteArray) (hh : h.size = 32) : ∀ (t : Tr), TrOK t → ∀ (m : Nat), Rise m t → (leadL h t).1 = key → ∀ (B0 : Nat → Prop) (kv : Value) (w : World), (∀ x, B0 x → x < w.heap.size) → Brs B0 w kv t.toBr.kids →
  Calls Tryz.prog 80 #[.agg #[.string t.toBr.key, .string t.toBr.val, .int .i64 t.toBr.at_, kv], .string h, .string key] w fun e w' => DrR B0 (brOf (dropT h t)) w e w' := by
 intro t
 induction t with
 | leaf k v =>
  intro hok m hr hle B0 kv w hB0 hB
  obtain ⟨sa, cap, rfl, hcap, hcm⟩ := hB.shape
  have HLF := Hd (fun wx => l07Leaf_any k v 256 sa 0 cap wx (by unfold maxLen at hcm ⊢; omega))
  rw [show decide ((0 : Nat) = 0) = true from rfl] at HLF
  have HGR : Hid (∀ w', Below w.heap.size w w' → DrR B0 (brOf (dropT h (.leaf k v))) w (.returned (.agg #[.string ⟨#[]⟩, .string ⟨#[]⟩, .int .i64 0, .slice none 0 0])) w') := Hd (fun w' hb => ⟨none, 0, 0, rfl, .nil _ _ (by unfold maxLen; omega), hb⟩)
  have B1 := Hd ((bal w (.cells #[.string k, .string v, .int .i64 256, .slice sa 0 cap] 30)).alloc (by simp) (.cells #[.string ⟨#[]⟩, .string ⟨#[]⟩, .int .i64 0, .slice none 0 0] 30))
  have R1 := Hd (Blk.new (w.alloc (.cells #[.string k, .string v, .int .i64 256, .slice sa 0 cap] 30)) #[.string ⟨#[]⟩, .string ⟨#[]⟩, .int .i64 0, .slice none 0 0] 30 (w.heap.size + 1) (by simp))
  have HRS := Hd (show w.heap.size < w.heap.size + 1 by omega)
  dsimp only [Tr.toBr, Br.key, Br.val, Br.at_, Br.kids, List.length_nil] at hB hcap ⊢
  clear hB hok hr hle
  go_enter Tryz.func80, Tryz.ntmps80
  go_wp2_with fail
  generalize (w.alloc (.cells #[.string k, .string v, .int .i64 256, .slice sa 0 cap] 30)).alloc (.cells #[.string ⟨#[]⟩, .string ⟨#[]⟩, .int .i64 0, .slice none 0 0] 30) = w1 at *
  generalize w.heap.size + 1 = R at *
  refine (uh HLF w1).mono ?_
  rintro e w2 ⟨rfl, hb2⟩
  have B2 := hbt B1 hb2
  have R2 := Hd ((uh R1).below hb2)
  clear hb2 B1 R1
  have r0 := (uh R2).cell 0 rfl
  have r1 := (uh R2).cell 1 rfl
  have r2 := (uh R2).cell 2 rfl
  have r3 := (uh R2).cell 3 rfl
  have f0 := (uh R2).fro 0
  have f1 := (uh R2).fro 1
  have f2 := (uh R2).fro 2
  have f3 := (uh R2).fro 3
  have hZ := set4_blk (uh R2) (.string ⟨#[]⟩) (.string ⟨#[]⟩) (.int .i64 0) (.slice none 0 0)
  have z0 := hZ.cell 0 rfl
  have z1 := hZ.cell 1 rfl
  have z2 := hZ.cell 2 rfl
  have z3 := hZ.cell 3 rfl
  have HT4 := Hd (set4_touch w2 R (.string ⟨#[]⟩) (.string ⟨#[]⟩) (.int .i64 0) (.slice none 0 0))
  have HBF := Hd ((uh B2).trans ((uh HT4).below (uh B2).size (fun q hq e => by have := (uh HRS); omega)))
  unfold set4 at z0 z1 z2 z3
  clear hZ
  go_wp2_with fail
  refine bodyPost_ret (v := .agg #[.string ⟨#[]⟩, .string ⟨#[]⟩, .int .i64 0, .slice none 0 0]) (by simp [results, Tryz.results80, go_sem, z0, z1, z2, z3]) rfl ?_
  exact uh HGR _ (uh HBF)
 | fork a hv l r ihl ihr =>
  intro hok m hr hle B0 kv w hB0 hB
  obtain ⟨ha, _, okl, okr⟩ := hok
  obtain ⟨r0, r1, r2, r3⟩ := hr
  obtain ⟨sa, cap, rfl, hcap, hcm⟩ := hB.shape
  have hkm := hcm
  obtain ⟨kb, no, tn, tq, hkb, hwr, hb2, hn2, HLE, HDT, hrn, okn, oko, hgn, hgo, IH⟩ : ∃ (kb no : Nat) (tn tq : Tr), bitN h a = kb ∧ IntKind.i64.wrap (1 - (kb : Int)) = (no : Int) ∧ kb < 2 ∧ no < 2 ∧ Hid (leadL h (.fork a hv l r) = leadL h tn) ∧ Hid (dropT h (.fork a hv l r) = some (repl kb a hv l r tq (dropT h tn))) ∧ Rise (a + 1) tn ∧ TrOK tn ∧ TrOK tq ∧ ([l.toBr, r.toBr] : List Br).getD kb default = tn.toBr ∧ ([l.toBr, r.toBr] : List Br).getD no default = tq.toBr ∧
    Hid ((leadL h tn).1 = key → ∀ (B0 : Nat → Prop) (kv : Value) (w : World), (∀ x, B0 x → x < w.heap.size) → Brs B0 w kv tn.toBr.kids → Calls Tryz.prog 80 #[.agg #[.string tn.toBr.key, .string tn.toBr.val, .int .i64 tn.toBr.at_, kv], .string h, .string key] w fun e w' => DrR B0 (brOf (dropT h tn)) w e w') := by
   rcases bitN_01 h a with hb | hb
   ·exact ⟨0, 1, l, r, hb, by decide, by omega, by omega, Hd (by conv => lhs; unfold leadL; rw [if_pos hb]), Hd (drop_0 h a hv l r hb), r2, okl, okr, rfl, rfl, Hd (fun e => ihl okl _ r2 e)⟩
   ·exact ⟨1, 0, r, l, hb, by decide, by omega, by omega, Hd (by conv => lhs; unfold leadL; rw [if_neg (by omega)]), Hd (drop_1 h a hv l r hb), r3, okr, okl, rfl, rfl, Hd (fun e => ihr okr _ r3 e)⟩
  clear ihl ihr
  have HLK := Hd ((congrArg Prod.fst (uh HLE)).symm.trans hle)
  have IH2 := Hd (uh IH (uh HLK))
  clear IH
  rw [uh HDT]
  have HGR : Hid (∀ sa n cap w', Brs (fun x => B0 x ∨ w.heap.size ≤ x) w' (.slice sa n cap) (repl kb a hv l r tq (dropT h tn)).toBr.kids → Below w.heap.size w w' → DrR B0 (brOf (some (repl kb a hv l r tq (dropT h tn)))) w (.returned (.agg #[.string (repl kb a hv l r tq (dropT h tn)).toBr.key, .string (repl kb a hv l r tq (dropT h tn)).toBr.val, .int .i64 (repl kb a hv l r tq (dropT h tn)).toBr.at_, .slice sa n cap])) w') := Hd (fun sa n cap w' h1 hb => ⟨sa, n, cap, rfl, h1, hb⟩)
  dsimp only [Tr.toBr, Br.key, Br.val, Br.at_, Br.kids] at hB hcap ⊢
  rw [show ([l.toBr, r.toBr] : List Br).length = 2 from rfl] at hB hcap ⊢
  obtain ⟨bb, off, kvf, rfl, _, hat⟩ := hB.at (by simp)
  have hbb := hat.lt
  obtain ⟨s0, s1, s2, s3⟩ := hat.cells no (by simpa using hn2)
  obtain ⟨d0, d1, d2, d3⟩ := hat.cells kb (by simpa using hb2)
  have KO := Hd (hat.kids no (by simpa using hn2))
  have KN := Hd (hat.kids kb (by simpa using hb2))
  rw [hgo] at s0 s1 s2 KO
  rw [hgn] at d0 d1 d2 KN
  obtain ⟨kao, kco, hkvo, _, _⟩ := (uh KO).shape
  obtain ⟨kan, kcn, hkvn, _, hknm⟩ := (uh KN).shape
  rw [hkvo] at KO s3
  rw [hkvn] at KN d3
  have HLF := Hd (fun wx => l07Leaf_any ⟨#[]⟩ ⟨#[]⟩ a (some ⟨bb, off, none⟩) 2 cap wx (by unfold maxLen at hkm ⊢; omega))
  rw [show decide ((2 : Nat) = 0) = false from rfl] at HLF
  have HLX := Hd (fun wx => l07Leaf_any tn.toBr.key tn.toBr.val tn.toBr.at_ kan tn.toBr.kids.length kcn wx (by unfold maxLen at hknm ⊢; have := (uh KN).shape; omega))
  have HBT := Hd (fun wx => l07Bit_any h a wx hh r1)
  rw [hkb] at HBT
  have B1 := Hd ((bal w (.cells #[.string ⟨#[]⟩, .string ⟨#[]⟩, .int .i64 a, .slice (some ⟨bb, off, none⟩) 2 cap] 30)).alloc (by simp) (.cells #[.string ⟨#[]⟩, .string ⟨#[]⟩, .int .i64 0, .slice none 0 0] 30))
  have X1 := Hd ((Blk.new w #[.string ⟨#[]⟩, .string ⟨#[]⟩, .int .i64 a, .slice (some ⟨bb, off, none⟩) 2 cap] 30 w.heap.size rfl).alloc (.cells #[.string ⟨#[]⟩, .string ⟨#[]⟩, .int .i64 0, .slice none 0 0] 30))
  have R1 := Hd (Blk.new (w.alloc (.cells #[.string ⟨#[]⟩, .string ⟨#[]⟩, .int .i64 a, .slice (some ⟨bb, off, none⟩) 2 cap] 30)) #[.string ⟨#[]⟩, .string ⟨#[]⟩, .int .i64 0, .slice none 0 0] 30 (w.heap.size + 1) (by simp))
  have HRS := Hd (show w.heap.size < w.heap.size + 1 by omega)
  have HAT := Hd hat
  have HKV := Hd (And.intro hkvo (And.intro hkvn (And.intro hgn hgo)))
  clear hB hat hkvo hkvn hkb hgn hgo HLE hle HDT
  go_enter Tryz.func80, Tryz.ntmps80
  go_wp2_with fail
  generalize (w.alloc (.cells #[.string ⟨#[]⟩, .string ⟨#[]⟩, .int .i64 a, .slice (some ⟨bb, off, none⟩) 2 cap] 30)).alloc (.cells #[.string ⟨#[]⟩, .string ⟨#[]⟩, .int .i64 0, .slice none 0 0] 30) = w1 at *
  generalize w.heap.size + 1 = R at *
  refine (uh HLF w1).mono ?_
  rintro e w2 ⟨rfl, hb2'⟩
  have B2 := Hd ((uh B1).trans (hb2'.mono (uh B1).size))
  have X2 := Hd ((uh X1).below hb2')
  have R2 := Hd ((uh R1).below hb2')
  clear hb2' B1 X1 R1 HLF
  have x2 := (uh X2).cell 2 rfl
  go_wp2_with fail
  refine (uh HBT w2).mono ?_
  rintro e w9 ⟨rfl, hw9⟩
  subst w9
  have x3 := (uh X2).cell 3 rfl
  have t0 := ((uh B2).cell (p := ⟨bb, off + kb * 4, none⟩) hbb).trans d0
  have t1 := ((uh B2).cell (p := ⟨bb, off + kb * 4 + 1, none⟩) hbb).trans d1
  have t2 := ((uh B2).cell (p := ⟨bb, off + kb * 4 + 2, none⟩) hbb).trans d2
  have t3 := ((uh B2).cell (p := ⟨bb, off + kb * 4 + 3, none⟩) hbb).trans d3
  have m0 : (0 : Int) ≤ (kb : Int) := by omega
  have m1 : (kb : Int) < 2 := by omega
  have n0 : (0 : Int) ≤ (no : Int) := by omega
  have n1 : (no : Int) < 2 := by omega
  go_wp2_with fail
  have BB := bal w2 (.cells #[.string tn.toBr.key, .string tn.toBr.val, .int .i64 tn.toBr.at_, .slice kan tn.toBr.kids.length kcn] 30)
  have B3 := hbt B2 BB
  have X3 := Hd ((uh X2).below BB)
  have R3 := Hd ((uh R2).below BB)
  have Q3 := Hd (Blk.new w2 #[.string tn.toBr.key, .string tn.toBr.val, .int .i64 tn.toBr.at_, .slice kan tn.toBr.kids.length kcn] 30 w2.heap.size rfl)
  clear BB B2 X2 R2 x2 x3 t0 t1 t2 t3
  generalize w2.alloc (.cells #[.string tn.toBr.key, .string tn.toBr.val, .int .i64 tn.toBr.at_, .slice kan tn.toBr.kids.length kcn] 30) = w3 at *
  refine (uh HLX w3).mono ?_
  rintro e w4 ⟨rfl, hb4⟩
  have B4 := hbt B3 hb4
  have X4 := Hd ((uh X3).below hb4)
  have R4 := Hd ((uh R3).below hb4)
  have Q4 := Hd ((uh Q3).below hb4)
  clear hb4 B3 X3 R3 Q3 HLX
  have x2 := (uh X4).cell 2 rfl
  have x3 := (uh X4).cell 3 rfl
  have q0 := (uh Q4).cell 0 rfl
  cases tn with
  | leaf k' v' =>
   have hkk : k' = key := uh HLK
   rw [show decide ((Tr.leaf k' v').toBr.kids.length = 0) = true from rfl]
   have hbk := list_eq hkk
   have q0' : w4.cell? ⟨w2.heap.size, 0, none⟩ = some (.string k') := q0
   have y0 := ((uh B4).cell (p := ⟨bb, off + no * 4, none⟩) hbb).trans s0
   have y1 := ((uh B4).cell (p := ⟨bb, off + no * 4 + 1, none⟩) hbb).trans s1
   have y2 := ((uh B4).cell (p := ⟨bb, off + no * 4 + 2, none⟩) hbb).trans s2
   have y3 := ((uh B4).cell (p := ⟨bb, off + no * 4 + 3, none⟩) hbb).trans s3
   have HGR2 : Hid (∀ sa n cap w', Brs (fun x => B0 x ∨ w.heap.size ≤ x) w' (.slice sa n cap) tq.toBr.kids → Below w.heap.size w w' → DrR B0 (brOf (some (repl kb a hv l r tq (dropT h (.leaf k' v'))))) w (.returned (.agg #[.string tq.toBr.key, .string tq.toBr.val, .int .i64 tq.toBr.at_, .slice sa n cap])) w') := HGR
   clear HGR hkk q0 HLK IH2 s0 s1 s2 s3 d0 d1 d2 d3 KN hrn okn
   have r0 := (uh R4).cell 0 rfl
   have r1 := (uh R4).cell 1 rfl
   have r2 := (uh R4).cell 2 rfl
   have r3 := (uh R4).cell 3 rfl
   have f0 := (uh R4).fro 0
   have f1 := (uh R4).fro 1
   have f2 := (uh R4).fro 2
   have f3 := (uh R4).fro 3
   have hZ := set4_blk (uh R4) (.string tq.toBr.key) (.string tq.toBr.val) (.int .i64 tq.toBr.at_) (.slice kao tq.toBr.kids.length kco)
   have z0 := hZ.cell 0 rfl
   have z1 := hZ.cell 1 rfl
   have z2 := hZ.cell 2 rfl
   have z3 := hZ.cell 3 rfl
   have HT4 := Hd (set4_touch w4 R (.string tq.toBr.key) (.string tq.toBr.val) (.int .i64 tq.toBr.at_) (.slice kao tq.toBr.kids.length kco))
   have HBF := Hd ((uh B4).trans ((uh HT4).below (uh B4).size (fun q hq e => by have := (uh HRS); omega)))
   unfold set4 at z0 z1 z2 z3
   clear hZ
   go_wp2_with fail
   refine bodyPost_ret (v := .agg #[.string tq.toBr.key, .string tq.toBr.val, .int .i64 tq.toBr.at_, .slice kao tq.toBr.kids.length kco]) (by simp [results, Tryz.results80, go_sem, z0, z1, z2, z3]) rfl ?_
   exact uh HGR2 _ _ _ _ (((uh KO).mono (fun x hx => .inl hx)).blw (uh HBF)) (uh HBF)
  | fork a' hv' l' r' =>
   rw [show decide ((Tr.fork a' hv' l' r').toBr.kids.length = 0) = false from rfl]
   obtain ⟨t', ht'⟩ := drop_some h a' hv' l' r'
   have HGR3 : Hid (∀ sa n cap w', Brs (fun x => B0 x ∨ w.heap.size ≤ x) w' (.slice sa n cap) (repl kb a hv l r tq (some t')).toBr.kids → Below w.heap.size w w' → DrR B0 (brOf (some (repl kb a hv l r tq (dropT h (.fork a' hv' l' r'))))) w (.returned (.agg #[.string (repl kb a hv l r tq (some t')).toBr.key, .string (repl kb a hv l r tq (some t')).toBr.val, .int .i64 (repl kb a hv l r tq (some t')).toBr.at_, .slice sa n cap])) w') := Hd (by
    have q := uh HGR
    rw [ht'] at q ⊢
    exact q)
   rw [ht'] at IH2
   clear HGR
   obtain ⟨ka0, kc0, hk0, _, _⟩ := ((uh HAT).kids 0 (by simp)).shape
   obtain ⟨ka1, kc1, hk1, _, _⟩ := ((uh HAT).kids 1 (by simp)).shape
   have BB := bal w4 (.cells #[] 30)
   have B5 := hbt B4 BB
   have X5 := Hd ((uh X4).below BB)
   have R5 := Hd ((uh R4).below BB)
   have O5 : Hid ((w4.alloc (.cells #[] 30)).ownsRow w4.heap.size 30 4 (.slice (some ⟨w4.heap.size, 0, none⟩) 0 0) 0 []) := Hd (World.ownsRow_made w4 #[] 0 (Nat.le_refl _) (by unfold maxLen; omega) rfl)
   have HRW := Hd (row2_rw (cap := cap) (uh HAT) (uh B5))
   have H1C : Hid (∀ u ∈ row2 l.toBr r.toBr (kvf 0) (kvf 1), u.oneCell' = true) := Hd (by rw [hk0, hk1]; exact row2_one)
   have x35 := (uh X5).cell 3 rfl
   have hE5 : (w4.alloc (.cells #[] 30)).heap.size = w4.heap.size + 1 := by simp
   obtain ⟨i0, hi, hz0, hz1, hz2⟩ := info_parts infoBr
   have HOT : Hid (TrOK t') := Hd (by have q := dropT_ok h (.fork a' hv' l' r') okn; rw [ht'] at q; exact q)
   have hw4 := (uh B4).size
   have hX4' : w.heap.size < w4.heap.size := (uh X4).1
   have hR4' : R < w4.heap.size := (uh R4).1
   clear BB X4 R4 B4 Q4 x2 x3 q0 ht' hk0 hk1
   go_upto_region 8 with (at_builtin; refine wpList_append_row _ rfl _ _ _ rfl w4.heap.size 30 i0 _ 4 64 Tryz.underlying28 hi hz0 hz1 hz2 rfl (by omega) _ 0 [] rfl (uh O5) _ 2 (row2 l.toBr r.toBr (kvf 0) (kvf 1)) rfl (uh HRW) rfl (uh H1C) (by unfold maxLen; omega) (by omega) (by omega) ?_; intro a6 c6 w6 hown6 hgrow6 hat6; have R6' := Hd (And.intro hown6 (And.intro hgrow6 hat6)); clear hown6 hgrow6 hat6)
   obtain ⟨hown6, hgrow6, hat6⟩ := uh R6'
   obtain ⟨g6, c6', he6, hg6, hg6'⟩ := World.ownsRow.form hown6 (by omega)
   cases he6
   rw [List.nil_append] at hown6
   have B6 := Hd (grown6 (uh B5) hgrow6 hw4)
   have T6 : Touch (fun q => q = w4.heap.size) _ w6 := grownT hgrow6
   have X6 := Hd ((uh X5).kept T6 (fun e => by have e' : w.heap.size = w4.heap.size := e; omega))
   have R6 := Hd ((uh R5).kept T6 (fun e => by have e' : R = w4.heap.size := e; omega))
   have O6 := Hd hown6
   have x36 := (uh X6).cell 3 rfl
   have t0 := ((uh B6).cell (p := ⟨bb, off + kb * 4, none⟩) hbb).trans d0
   have t1 := ((uh B6).cell (p := ⟨bb, off + kb * 4 + 1, none⟩) hbb).trans d1
   have t2 := ((uh B6).cell (p := ⟨bb, off + kb * 4 + 2, none⟩) hbb).trans d2
   have t3 := ((uh B6).cell (p := ⟨bb, off + kb * 4 + 3, none⟩) hbb).trans d3
   clear hown6 hgrow6 hat6 T6 R6' X5 R5 B5 O5 HRW H1C x35
   have HIH := Hd (uh IH2 B0 _ w6 (fun x hx => Nat.lt_of_lt_of_le (hB0 x hx) (uh B6).size) ((uh KN).blw (uh B6)))
   go_wp2_with fail
   refine (uh HIH).mono ?_
   rintro e w7 ⟨s7, n7, c7, rfl, hBr7, hb7⟩
   have B7 := hbt B6 hb7
   have X7 := Hd ((uh X6).below hb7)
   have R7 := Hd ((uh R6).below hb7)
   have O7 := own_kept (T := fun _ => False) (uh O6) (Touch.ofBelow hb7) (fun _ _ h => h)
   have HBr := Hd hBr7
   obtain ⟨e0, he0⟩ : ∃ v, (row2 l.toBr r.toBr (kvf 0) (kvf 1))[kb * 4]? = some v := ⟨_, List.getElem?_eq_getElem (by simp [row2]; omega)⟩
   obtain ⟨e1, he1⟩ : ∃ v, (row2 l.toBr r.toBr (kvf 0) (kvf 1))[kb * 4 + 1]? = some v := ⟨_, List.getElem?_eq_getElem (by simp [row2]; omega)⟩
   obtain ⟨e2, he2⟩ : ∃ v, (row2 l.toBr r.toBr (kvf 0) (kvf 1))[kb * 4 + 2]? = some v := ⟨_, List.getElem?_eq_getElem (by simp [row2]; omega)⟩
   obtain ⟨e3, he3⟩ : ∃ v, (row2 l.toBr r.toBr (kvf 0) (kvf 1))[kb * 4 + 3]? = some v := ⟨_, List.getElem?_eq_getElem (by simp [row2]; omega)⟩
   have g0 := (O7.cellAt (kb * 4) (by omega)).trans he0
   have g1 := (O7.cellAt (kb * 4 + 1) (by omega)).trans he1
   have g2 := (O7.cellAt (kb * 4 + 2) (by omega)).trans he2
   have g3 := (O7.cellAt (kb * 4 + 3) (by omega)).trans he3
   have i0' := O7.frozenAt (kb * 4)
   have i1' := O7.frozenAt (kb * 4 + 1)
   have i2' := O7.frozenAt (kb * 4 + 2)
   have i3' := O7.frozenAt (kb * 4 + 3)
   have HO7 := Hd O7
   have hz67 := hb7.size
   clear O7 hb7 hBr7 X6 R6 B6 O6 x36 t0 t1 t2 t3 he0 he1 he2 he3 HIH
   go_upto_region 9 with fail
   have O8 := ((((uh HO7).stored (kb * 4) (.string (brOf (some t')).key)).1.stored (kb * 4 + 1) (.string (brOf (some t')).val)).1.stored (kb * 4 + 2) (.int .i64 (brOf (some t')).at_)).1.stored (kb * 4 + 3) (.slice s7 n7 c7) |>.1
   have T8 : Touch (fun q => q = g6) w7 ((((w7.setCell ⟨g6, kb * 4, none⟩ (.string (brOf (some t')).key)).setCell ⟨g6, kb * 4 + 1, none⟩ (.string (brOf (some t')).val)).setCell ⟨g6, kb * 4 + 2, none⟩ (.int .i64 (brOf (some t')).at_)).setCell ⟨g6, kb * 4 + 3, none⟩ (.slice s7 n7 c7)) :=
    ((((Touch.refl (fun q => q = g6) w7).setCell ⟨g6, kb * 4, none⟩ _ (fun _ => rfl)).setCell ⟨g6, kb * 4 + 1, none⟩ _ (fun _ => rfl)).setCell ⟨g6, kb * 4 + 2, none⟩ _ (fun _ => rfl)).setCell ⟨g6, kb * 4 + 3, none⟩ _ (fun _ => rfl)
   have X8 := Hd ((uh X7).kept T8 (fun e => by have e' : w.heap.size = g6 := e; omega))
   have R8 := Hd ((uh R7).kept T8 (fun e => by have e' : R = g6 := e; omega))
   have B8 := Hd ((uh B7).trans (T8.below (uh B7).size (fun q hq e => by have e' : q = g6 := e; omega)))
   have HBr8 := Hd ((uh HBr).touch T8 (fun q hq e => by have e' : q = g6 := e; rcases hq with hq | hq; (have h8 := hB0 q hq; omega); omega))
   have HO8 := Hd O8
   clear O8 T8 HO7 HBr X7 R7 B7 g0 g1 g2 g3 i0' i1' i2' i3'
   generalize (((w7.setCell ⟨g6, kb * 4, none⟩ (.string (brOf (some t')).key)).setCell ⟨g6, kb * 4 + 1, none⟩ (.string (brOf (some t')).val)).setCell ⟨g6, kb * 4 + 2, none⟩ (.int .i64 (brOf (some t')).at_)).setCell ⟨g6, kb * 4 + 3, none⟩ (.slice s7 n7 c7) = w8 at *
   have x28 := (uh X8).cell 2 rfl
   have r0 := (uh R8).cell 0 rfl
   have r1 := (uh R8).cell 1 rfl
   have r2' := (uh R8).cell 2 rfl
   have r3' := (uh R8).cell 3 rfl
   have f0 := (uh R8).fro 0
   have f1 := (uh R8).fro 1
   have f2 := (uh R8).fro 2
   have f3 := (uh R8).fro 3
   have hZ := set4_blk (uh R8) (.string ⟨#[]⟩) (.string ⟨#[]⟩) (.int .i64 a) (.slice (some ⟨g6, 0, none⟩) 2 c6)
   have z0 := hZ.cell 0 rfl
   have z1 := hZ.cell 1 rfl
   have z2 := hZ.cell 2 rfl
   have z3 := hZ.cell 3 rfl
   have HT4 := Hd (set4_touch w8 R (.string ⟨#[]⟩) (.string ⟨#[]⟩) (.int .i64 a) (.slice (some ⟨g6, 0, none⟩) 2 c6))
   have HBF := Hd ((uh B8).trans ((uh HT4).below (uh B8).size (fun q hq e => by have := (uh HRS); omega)))
   unfold set4 at z0 z1 z2 z3
   clear hZ
   go_wp2_with fail
   refine bodyPost_ret (v := .agg #[.string ⟨#[]⟩, .string ⟨#[]⟩, .int .i64 a, .slice (some ⟨g6, 0, none⟩) 2 c6]) (by simp [results, Tryz.results80, go_sem, z0, z1, z2, z3]) rfl ?_
   have hrs := uh HRS
   have O9 := own_kept (uh HO8) (uh HT4) (fun q hq e => by
    have e1 : g6 = q := by simpa [Value.ownBlock] using hq
    have e2 : q = R := e
    omega)
   have K9 := ((uh HBr8).touch (uh HT4) (fun q hq e => by have e2 : q = R := e; rcases hq with hq | hq; (have h8 := hB0 q hq; omega); omega)).mono (T := fun x => B0 x ∨ w.heap.size ≤ x) (fun x hx => hx.imp id (fun h => by omega))
   have zt := toBr_small (uh HOT)
   have zl := toBr_small okl
   have zr := toBr_small okr
   have L0 := (((uh HAT).kids 0 (by simp)).mono (T := fun x => B0 x ∨ w.heap.size ≤ x) (fun x hx => .inl hx)).blw (uh HBF)
   have L1 := (((uh HAT).kids 1 (by simp)).mono (T := fun x => B0 x ∨ w.heap.size ≤ x) (fun x hx => .inl hx)).blw (uh HBF)
   rcases (show kb = 0 ∨ kb = 1 by omega) with hk | hk
   ·subst hk
    exact uh HGR3 (some ⟨g6, 0, none⟩) 2 c6 _ (brs_two (b0 := t'.toBr) (b1 := r.toBr) (v0 := .slice s7 n7 c7) (v1 := kvf 1) O9 zt zr K9 L1 (.inr (by omega))) (uh HBF)
   ·subst hk
    exact uh HGR3 (some ⟨g6, 0, none⟩) 2 c6 _ (brs_two (b0 := l.toBr) (b1 := t'.toBr) (v0 := kvf 0) (v1 := .slice s7 n7 c7) O9 zl zt L0 K9 (.inr (by omega))) (uh HBF)
theorem own_lit4 {w : World} {B X : Nat} {cs : Array Value} (h : w.heap[X]? = some (.cells cs 30 (0, 0))) (hB : B ≤ X) (hn : cs.size = 8) : w.ownsRow B 30 4 (.slice (some ⟨X, 0, none⟩) 2 2) 2 cs.toList :=
 ⟨by simp [hn], .inr ⟨X, 2, cs, rfl, hB, h, Nat.le_refl _, by unfold maxLen; omega, by simp [hn], by rw [show 2 * 4 = cs.size from hn.symm, ← Array.length_toList, List.take_length]⟩⟩
theorem l07Insert_build (k v h : ByteArray) (hh : h.size = 32) (at_ : Nat) (ha : at_ < 256) (hkv : TrOK (.leaf k v)) (t : Tr) (hok : TrOK t) (hc : t.toBr.kids.length = 0 ∨ (at_ : Int) < t.toBr.at_) (B0 : Nat → Prop) (kv : Value) (w : World) (hB0 : ∀ x, B0 x → x < w.heap.size) (hB : Brs B0 w kv t.toBr.kids) :
  Calls Tryz.prog 100 #[.agg #[.string t.toBr.key, .string t.toBr.val, .int .i64 t.toBr.at_, kv], .string h, .int .i64 at_, .agg #[.string k, .string v, .int .i64 256, .slice none 0 0]] w fun e w' => DrR B0 (forkT at_ h k v t).toBr w e w' := by
 obtain ⟨sa, cap, rfl, hcap, hcm⟩ := hB.shape
 have HZT := Hd (toBr_small hok)
 have HZK := Hd (toBr_small hkv)
 have HLF := Hd (fun wx => l07Leaf_any t.toBr.key t.toBr.val t.toBr.at_ sa t.toBr.kids.length cap wx (by unfold maxLen at hcm ⊢; omega))
 have HBT := Hd (fun wx => l07Bit_any h at_ wx hh ha)
 have HKB := Hd hB
 have B1 := Hd (((bal w (.cells #[.string t.toBr.key, .string t.toBr.val, .int .i64 t.toBr.at_, .slice sa t.toBr.kids.length cap] 30)).alloc (by simp) (.cells #[.string k, .string v, .int .i64 256, .slice none 0 0] 30)).alloc (by simp; omega) (.cells #[.string ⟨#[]⟩, .string ⟨#[]⟩, .int .i64 0, .slice none 0 0] 30))
 have X1 := Hd (((Blk.new w #[.string t.toBr.key, .string t.toBr.val, .int .i64 t.toBr.at_, .slice sa t.toBr.kids.length cap] 30 w.heap.size rfl).alloc (.cells #[.string k, .string v, .int .i64 256, .slice none 0 0] 30)).alloc (.cells #[.string ⟨#[]⟩, .string ⟨#[]⟩, .int .i64 0, .slice none 0 0] 30))
 have L1 := Hd ((Blk.new (w.alloc (.cells #[.string t.toBr.key, .string t.toBr.val, .int .i64 t.toBr.at_, .slice sa t.toBr.kids.length cap] 30)) #[.string k, .string v, .int .i64 256, .slice none 0 0] 30 (w.heap.size + 1) (by simp)).alloc (.cells #[.string ⟨#[]⟩, .string ⟨#[]⟩, .int .i64 0, .slice none 0 0] 30))
 have R1 := Hd (Blk.new ((w.alloc (.cells #[.string t.toBr.key, .string t.toBr.val, .int .i64 t.toBr.at_, .slice sa t.toBr.kids.length cap] 30)).alloc (.cells #[.string k, .string v, .int .i64 256, .slice none 0 0] 30)) #[.string ⟨#[]⟩, .string ⟨#[]⟩, .int .i64 0, .slice none 0 0] 30 (w.heap.size + 1 + 1) (by simp))
 have HRS := Hd (show w.heap.size < w.heap.size + 1 + 1 by omega)
 have hne : ((at_ : Int) == 256) = false := by rw [beq_eq_false_iff_ne]; omega
 clear hB hok hkv
 go_enter Tryz.func100, Tryz.ntmps100
 go_upto_region 3 with fail
 generalize ((w.alloc (.cells #[.string t.toBr.key, .string t.toBr.val, .int .i64 t.toBr.at_, .slice sa t.toBr.kids.length cap] 30)).alloc (.cells #[.string k, .string v, .int .i64 256, .slice none 0 0] 30)).alloc (.cells #[.string ⟨#[]⟩, .string ⟨#[]⟩, .int .i64 0, .slice none 0 0] 30) = w1 at *
 generalize w.heap.size + 1 + 1 = R at *
 generalize w.heap.size + 1 = L at *
 have x0 := (uh X1).cell 0 rfl
 have x1 := (uh X1).cell 1 rfl
 have x2 := (uh X1).cell 2 rfl
 have x3 := (uh X1).cell 3 rfl
 go_cut [25] (fun s wx => s = .bool true ∧ Below w1.heap.size w1 wx)
 case first =>
  cases hlf : decide (t.toBr.kids.length = 0)
  ·have hlt : (at_ : Int) < t.toBr.at_ := by
    rcases hc with h0 | h0
    ·rw [decide_eq_true h0] at hlf; cases hlf
    ·exact h0
   rw [hlf] at HLF
   clear hc hlf
   go_wp2_with fail
   refine (uh HLF w1).mono ?_
   rintro e w2 ⟨rfl, hb2⟩
   have HB2 := Hd hb2
   have y2 := ((uh X1).below hb2).cell 2 rfl
   clear hb2
   go_wp2_with fail
   go_meet
   exact ⟨by first | rfl | simp [hlt], uh HB2⟩
  ·rw [hlf] at HLF
   clear hc hlf
   go_wp2_with fail
   refine (uh HLF w1).mono ?_
   rintro e w2 ⟨rfl, hb2⟩
   have HB2 := Hd hb2
   clear hb2
   go_wp2_with fail
   go_meet
   exact ⟨rfl, uh HB2⟩
 case rest =>
  obtain ⟨rfl, hbc⟩ := hcut
  obtain ⟨w2, hw2⟩ : ∃ w2, w2 = wc := ⟨_, rfl⟩
  subst hw2
  have B2 := hbt B1 hbc
  have R2 := Hd ((uh R1).below hbc)
  have X2 := (uh X1).below hbc
  have L2 := (uh L1).below hbc
  clear x0 x1 x2 x3 hbc B1 X1 R1 L1 hc
  have x0 := X2.cell 0 rfl
  have x1 := X2.cell 1 rfl
  have x2 := X2.cell 2 rfl
  have x3 := X2.cell 3 rfl
  have l0 := L2.cell 0 rfl
  have l1 := L2.cell 1 rfl
  have l2 := L2.cell 2 rfl
  have l3 := L2.cell 3 rfl
  clear X2 L2
  rcases bitN_01 h at_ with hb | hb
  ·have HF : Hid (forkT at_ h k v t = .fork at_ h (.leaf k v) t) := Hd (by unfold forkT; rw [if_pos hb])
   rw [hb] at HBT
   have HGR2 : Hid (∀ sa n cap w', Brs (fun x => B0 x ∨ w.heap.size ≤ x) w' (.slice sa n cap) [Br.mk k v 256 [], t.toBr] → Below w.heap.size w w' → DrR B0 (forkT at_ h k v t).toBr w (.returned (.agg #[.string ⟨#[]⟩, .string ⟨#[]⟩, .int .i64 at_, .slice sa n cap])) w') := Hd (fun sa n cap w' h1 hb => by rw [uh HF]; exact ⟨sa, n, cap, rfl, h1, hb⟩)
   have BA := bal w2 (.cells #[.string k, .string v, .int .i64 256, .slice none 0 0, .string t.toBr.key, .string t.toBr.val, .int .i64 t.toBr.at_, .slice sa t.toBr.kids.length cap] 30)
   have R3 := (uh R2).below BA
   have B3 := hbt B2 BA
   have O3 : Hid ((w2.alloc (.cells #[.string k, .string v, .int .i64 256, .slice none 0 0, .string t.toBr.key, .string t.toBr.val, .int .i64 t.toBr.at_, .slice sa t.toBr.kids.length cap] 30)).ownsRow w2.heap.size 30 4 (.slice (some ⟨w2.heap.size, 0, none⟩) 2 2) 2 #[.string k, .string v, .int .i64 256, .slice none 0 0, .string t.toBr.key, .string t.toBr.val, .int .i64 t.toBr.at_, .slice sa t.toBr.kids.length cap].toList) := Hd (own_lit4 (heap_alloc_new w2 _) (Nat.le_refl _) rfl)
   have r0 := R3.cell 0 rfl
   have r1 := R3.cell 1 rfl
   have r2 := R3.cell 2 rfl
   have r3 := R3.cell 3 rfl
   have f0 := R3.fro 0
   have f1 := R3.fro 1
   have f2 := R3.fro 2
   have f3 := R3.fro 3
   have hZ := set4_blk R3 (.string ⟨#[]⟩) (.string ⟨#[]⟩) (.int .i64 at_) (.slice (some ⟨w2.heap.size, 0, none⟩) 2 2)
   have z0 := hZ.cell 0 rfl
   have z1 := hZ.cell 1 rfl
   have z2 := hZ.cell 2 rfl
   have z3 := hZ.cell 3 rfl
   have HT4 := Hd (set4_touch (w2.alloc (.cells #[.string k, .string v, .int .i64 256, .slice none 0 0, .string t.toBr.key, .string t.toBr.val, .int .i64 t.toBr.at_, .slice sa t.toBr.kids.length cap] 30)) R (.string ⟨#[]⟩) (.string ⟨#[]⟩) (.int .i64 at_) (.slice (some ⟨w2.heap.size, 0, none⟩) 2 2))
   have HBF := Hd ((uh B3).trans ((uh HT4).below (uh B3).size (fun q hq e => by have := uh HRS; omega)))
   have hR2 := (uh R2).1
   have HRL := Hd (And.intro (uh B2).size hR2)
   unfold set4 at z0 z1 z2 z3
   clear hZ R3 BA hR2
   go_wp2_with fail
   refine (uh HBT w2).mono ?_
   rintro e w9 ⟨rfl, hw9⟩
   subst w9
   go_wp2_with fail
   refine bodyPost_ret (v := .agg #[.string ⟨#[]⟩, .string ⟨#[]⟩, .int .i64 at_, .slice (some ⟨w2.heap.size, 0, none⟩) 2 2]) (by simp [results, Tryz.results100, go_sem, z0, z1, z2, z3]) rfl ?_
   have O9 := own_kept (uh O3) (uh HT4) (fun q hq e => by
    have e1 : w2.heap.size = q := by simpa [Value.ownBlock] using hq
    have e2 : q = R := e
    have := (uh HRL).2
    omega)
   have KT := ((uh HKB).mono (T := fun x => B0 x ∨ w.heap.size ≤ x) (fun x hx => .inl hx)).blw (uh HBF)
   have KN := Brs.nil (w := set4 (w2.alloc (.cells #[.string k, .string v, .int .i64 256, .slice none 0 0, .string t.toBr.key, .string t.toBr.val, .int .i64 t.toBr.at_, .slice sa t.toBr.kids.length cap] 30)) R (.string ⟨#[]⟩) (.string ⟨#[]⟩) (.int .i64 at_) (.slice (some ⟨w2.heap.size, 0, none⟩) 2 2)) (S := fun x => B0 x ∨ w.heap.size ≤ x) none 0 (by unfold maxLen; omega)
   exact uh HGR2 (some ⟨w2.heap.size, 0, none⟩) 2 2 _ (brs_two (b0 := Br.mk k v 256 []) (b1 := t.toBr) (v0 := .slice none 0 0) (v1 := .slice sa t.toBr.kids.length cap) O9 (uh HZK) (uh HZT) KN KT (.inr (uh HRL).1)) (uh HBF)
  ·have HF : Hid (forkT at_ h k v t = .fork at_ h t (.leaf k v)) := Hd (by unfold forkT; rw [if_neg (by omega)])
   rw [hb] at HBT
   have HGR2 : Hid (∀ sa n cap w', Brs (fun x => B0 x ∨ w.heap.size ≤ x) w' (.slice sa n cap) [t.toBr, Br.mk k v 256 []] → Below w.heap.size w w' → DrR B0 (forkT at_ h k v t).toBr w (.returned (.agg #[.string ⟨#[]⟩, .string ⟨#[]⟩, .int .i64 at_, .slice sa n cap])) w') := Hd (fun sa n cap w' h1 hb => by rw [uh HF]; exact ⟨sa, n, cap, rfl, h1, hb⟩)
   have BA := bal w2 (.cells #[.string t.toBr.key, .string t.toBr.val, .int .i64 t.toBr.at_, .slice sa t.toBr.kids.length cap, .string k, .string v, .int .i64 256, .slice none 0 0] 30)
   have R3 := (uh R2).below BA
   have B3 := hbt B2 BA
   have O3 : Hid ((w2.alloc (.cells #[.string t.toBr.key, .string t.toBr.val, .int .i64 t.toBr.at_, .slice sa t.toBr.kids.length cap, .string k, .string v, .int .i64 256, .slice none 0 0] 30)).ownsRow w2.heap.size 30 4 (.slice (some ⟨w2.heap.size, 0, none⟩) 2 2) 2 #[.string t.toBr.key, .string t.toBr.val, .int .i64 t.toBr.at_, .slice sa t.toBr.kids.length cap, .string k, .string v, .int .i64 256, .slice none 0 0].toList) := Hd (own_lit4 (heap_alloc_new w2 _) (Nat.le_refl _) rfl)
   have r0 := R3.cell 0 rfl
   have r1 := R3.cell 1 rfl
   have r2 := R3.cell 2 rfl
   have r3 := R3.cell 3 rfl
   have f0 := R3.fro 0
   have f1 := R3.fro 1
   have f2 := R3.fro 2
   have f3 := R3.fro 3
   have hZ := set4_blk R3 (.string ⟨#[]⟩) (.string ⟨#[]⟩) (.int .i64 at_) (.slice (some ⟨w2.heap.size, 0, none⟩) 2 2)
   have z0 := hZ.cell 0 rfl
   have z1 := hZ.cell 1 rfl
   have z2 := hZ.cell 2 rfl
   have z3 := hZ.cell 3 rfl
   have HT4 := Hd (set4_touch (w2.alloc (.cells #[.string t.toBr.key, .string t.toBr.val, .int .i64 t.toBr.at_, .slice sa t.toBr.kids.length cap, .string k, .string v, .int .i64 256, .slice none 0 0] 30)) R (.string ⟨#[]⟩) (.string ⟨#[]⟩) (.int .i64 at_) (.slice (some ⟨w2.heap.size, 0, none⟩) 2 2))
   have HBF := Hd ((uh B3).trans ((uh HT4).below (uh B3).size (fun q hq e => by have := uh HRS; omega)))
   have hR2 := (uh R2).1
   have HRL := Hd (And.intro (uh B2).size hR2)
   unfold set4 at z0 z1 z2 z3
   clear hZ R3 BA hR2
   go_wp2_with fail
   refine (uh HBT w2).mono ?_
   rintro e w9 ⟨rfl, hw9⟩
   subst w9
   go_wp2_with fail
   refine bodyPost_ret (v := .agg #[.string ⟨#[]⟩, .string ⟨#[]⟩, .int .i64 at_, .slice (some ⟨w2.heap.size, 0, none⟩) 2 2]) (by simp [results, Tryz.results100, go_sem, z0, z1, z2, z3]) rfl ?_
   have O9 := own_kept (uh O3) (uh HT4) (fun q hq e => by
    have e1 : w2.heap.size = q := by simpa [Value.ownBlock] using hq
    have e2 : q = R := e
    have := (uh HRL).2
    omega)
   have KT := ((uh HKB).mono (T := fun x => B0 x ∨ w.heap.size ≤ x) (fun x hx => .inl hx)).blw (uh HBF)
   have KN := Brs.nil (w := set4 (w2.alloc (.cells #[.string t.toBr.key, .string t.toBr.val, .int .i64 t.toBr.at_, .slice sa t.toBr.kids.length cap, .string k, .string v, .int .i64 256, .slice none 0 0] 30)) R (.string ⟨#[]⟩) (.string ⟨#[]⟩) (.int .i64 at_) (.slice (some ⟨w2.heap.size, 0, none⟩) 2 2)) (S := fun x => B0 x ∨ w.heap.size ≤ x) none 0 (by unfold maxLen; omega)
   exact uh HGR2 (some ⟨w2.heap.size, 0, none⟩) 2 2 _ (brs_two (b0 := t.toBr) (b1 := Br.mk k v 256 []) (v0 := .slice sa t.toBr.kids.length cap) (v1 := .slice none 0 0) O9 (uh HZT) (uh HZK) KT KN (.inr (uh HRL).1)) (uh HBF)
end Go.Proofs.YtbchnheinnileaaGreatDoor.Sha
