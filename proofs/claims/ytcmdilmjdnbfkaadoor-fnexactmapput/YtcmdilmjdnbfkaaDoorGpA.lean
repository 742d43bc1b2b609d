/- impl.MapDrop. The specification's l07Own: a branch copied into memory of the call's own. What a slice that can be read holds, put behind a row of the call's own: elements of any number of cells; the slice may be empty, the row too. The specification's l07Drop. spec.MapDrop. -/
import Derived.Test.YtcmdilmjdnbfkaaDoorBrBh
import Derived.Test.YtcmdilmjdnbfkaaDoorBrWo
import Derived.Test.YtcmdilmjdnbfkaaDoorBrS
import Derived.Test.YtcmdilmjdnbfkaaDoorBrX
import Derived.Deep.AppendLies
import Derived.Deep.RegionLaw
import Derived.Test.YtcmdilmjdnbfkaaDoorStrO
import Derived.Maps.AppendAt
import Derived.Deep.Upon
import Derived.Test.YtcmdilmjdnbfkaaDoorBrW
namespace Go.Proofs.YtcmdilmjdnbfkaaDoor.Sha
open Go.ChangeShapes Go.WideShapes Go.ChangeAt Go.RowKit
set_option linter.unusedVariables false
set_option linter.unusedSimpArgs false

/-- What MapDrop answers of a map: the branch, the code. -/
def mdO (o : Option Tr) (key : ByteArray) : Br × Int := match o with
  | none => (brOf none, 5)
  | some t => if (leadL (kh key) t).1 = key then (brOf (dropT (kh key) t), 0) else (brOf none, 5)
def mdOut (b : Br) (key : ByteArray) : Br × Int := if txC key.size 1 24 = 0 then (match mapV b with
    | none => (brOf none, 1)
    | some o => mdO o key)
  else (brOf none, txC key.size 1 24)
/-- A branch as a value, its slices of the call's own. -/
def BrV (m : Nat) (w : World) (u : Value) (b : Br) : Prop := ∃ sa n cap, u = .agg #[.string b.key, .string b.val, .int .i64 b.at_, .slice sa n cap] ∧ BrO w (fun x => m ≤ x ∧ x < w.heap.size) (.slice sa n cap) b.kids
theorem brV_nil (m : Nat) (w : World) : BrV m w (.agg #[.string ⟨#[]⟩, .string ⟨#[]⟩, .int .i64 0, .slice none 0 0]) (brOf none) := ⟨none, 0, 0, rfl, .nil _ _ _ (by unfold maxLen; omega)⟩
set_option maxRecDepth 100000 in
set_option maxHeartbeats 1000000 in
theorem branch_nil (w : World) : Calls Tryd.prog 55 #[.pointer none] w fun e w' => BranchR (brOf none) w e w' := by
  have HGR : Hid (∀ w', Below w.heap.size w w' → BranchR (brOf none) w (.returned (.agg #[.string ⟨#[]⟩, .string ⟨#[]⟩, .int .i64 0, .slice none 0 0])) w') := hide (fun w' hb => ⟨none, 0, 0, rfl, .nil _ _ _ (by unfold maxLen; omega), hb⟩)
  have R1 := hide (Blk.new w #[.string ⟨#[]⟩, .string ⟨#[]⟩, .int .i64 0, .slice none 0 0] 37 w.heap.size rfl)
  have B1 := hide ((Below.refl w.heap.size w).alloc (Nat.le_refl _) (.cells #[.string ⟨#[]⟩, .string ⟨#[]⟩, .int .i64 0, .slice none 0 0] 37))
  have r0 := (unhide R1).cell 0 rfl
  have r1 := (unhide R1).cell 1 rfl
  have r2 := (unhide R1).cell 2 rfl
  have r3 := (unhide R1).cell 3 rfl
  go_enter Tryd.func55, Tryd.ntmps55
  go_wp2_with fail
  refine bodyPost_ret (v := .agg #[.string ⟨#[]⟩, .string ⟨#[]⟩, .int .i64 0, .slice none 0 0]) (by simp [results, Tryd.results55, go_sem, r0, r1, r2, r3]) rfl ?_
  exact unhide HGR _ (unhide B1)
/-- Behind the last stores. -/
theorem end4b {w wx : World} {R m : Nat} {x0 x1 x2 x3 : Value} {b : Br} {sa : Option Addr} {n cap : Nat} (hX : Blk wx R [x0, x1, x2, x3]) (hb : Below w.heap.size w wx) (ho : BrO wx (fun x => m ≤ x ∧ x < wx.heap.size) (.slice sa n cap) b.kids) (h0 : w.heap.size ≤ R) (h1 : R < m) :
    Blk (set4 wx R (.string b.key) (.string b.val) (.int .i64 b.at_) (.slice sa n cap)) R [.string b.key, .string b.val, .int .i64 b.at_, .slice sa n cap] ∧ BrV w.heap.size (set4 wx R (.string b.key) (.string b.val) (.int .i64 b.at_) (.slice sa n cap)) (.agg #[.string b.key, .string b.val, .int .i64 b.at_, .slice sa n cap]) b ∧ Below w.heap.size w (set4 wx R (.string b.key) (.string b.val) (.int .i64 b.at_) (.slice sa n cap)) := by
  have ht := set4_touch wx R (.string b.key) (.string b.val) (.int .i64 b.at_) (.slice sa n cap)
  have hts := ht.size
  refine ⟨set4_blk hX _ _ _ _, ⟨sa, n, cap, rfl, (ho.touch ht (fun q hq e => by omega)).mono (fun q hq => ⟨by omega, by omega⟩)⟩, hb.trans (ht.below hb.size (fun q hq e => by omega))⟩
set_option maxRecDepth 100000 in
set_option maxHeartbeats 4000000 in
theorem implMapDrop_any (k v : ByteArray) (a : Int) (ks : List Br) (key : ByteArray) (S : Nat → Prop) (kv : Value) (w : World) (hB : Brs S w kv ks) (hk : k.size ≤ maxLen) (hv : v.size ≤ maxLen) (hky : key.size ≤ 1048576) (ht : Tab w) :
    Calls Tryd.prog 21 #[.agg #[.string k, .string v, .int .i64 a, kv], .string key] w fun e w' => ∃ u, e = .returned (.tuple #[u, .int .i64 (mdOut (.mk k v a ks) key).2]) ∧ BrV w.heap.size w' u (mdOut (.mk k v a ks) key).1 ∧ Below w.heap.size w w' := by
  obtain ⟨sa, cap, rfl, hcap, hcm⟩ := hB.shape
  have B0 := hide ((Below.refl w.heap.size w).alloc (Nat.le_refl _) (.cells #[.string k, .string v, .int .i64 a, .slice sa ks.length cap] 37))
  have R0 := hide (Blk.new (w.alloc (.cells #[.string k, .string v, .int .i64 a, .slice sa ks.length cap] 37)) #[.string ⟨#[]⟩, .string ⟨#[]⟩, .int .i64 0, .slice none 0 0] 37 (w.heap.size + 1) (by simp))
  have B1 := hide ((unhide B0).alloc (unhide B0).size (.cells #[.string ⟨#[]⟩, .string ⟨#[]⟩, .int .i64 0, .slice none 0 0] 37))
  have HR := hide (openMap_any k v a ks key S _ _ ((hB.blw (unhide B0)).blw ((Below.refl _ _).alloc (Nat.le_refl _) (.cells #[.string ⟨#[]⟩, .string ⟨#[]⟩, .int .i64 0, .slice none 0 0] 37))) hk hv hky (ht.below (unhide B1)))
  have HT := hide ht
  have HRI := hide (fun o => mapV_rise (b := .mk k v a ks) (o := o))
  have HBR := hide (fun o => mapV_br (b := .mk k v a ks) (o := o))
  have HSZ := hide (show w.heap.size ≤ w.heap.size + 1 by omega)
  clear hB ht hk hv B0
  go_enter Tryd.func21, Tryd.ntmps21
  go_wp2_with fail
  generalize (w.alloc (.cells #[.string k, .string v, .int .i64 a, .slice sa ks.length cap] 37)).alloc (.cells #[.string ⟨#[]⟩, .string ⟨#[]⟩, .int .i64 0, .slice none 0 0] 37) = w1 at *
  generalize w.heap.size + 1 = rb at *
  refine (unhide HR).mono ?_
  rintro e w2 ⟨pv, c, rfl, hb, hcs⟩
  have B2 := hide ((unhide B1).trans (hb.mono (unhide B1).size))
  have R2 := hide ((unhide R0).below hb)
  have S1 := hide (And.intro (unhide R0).1 (And.intro (unhide B1).size hb.size))
  clear hb HR R0 B1
  rcases hcs with ⟨h1, h2, h3⟩ | ⟨h1, h2, h3, h4⟩ | ⟨h1, h2, o, h3, h4⟩
  · have HO : Hid (mdOut (.mk k v a ks) key = (brOf none, c)) := hide (by unfold mdOut; rw [if_neg h1, h2])
    have hcb : (c != 0) = true := by rw [h2]; simpa using h1
    clear h1 h2 h3
    have r0 := (unhide R2).cell 0 rfl
    have r1 := (unhide R2).cell 1 rfl
    have r2 := (unhide R2).cell 2 rfl
    have r3 := (unhide R2).cell 3 rfl
    have f0 := (unhide R2).fro 0
    have f1 := (unhide R2).fro 1
    have f2 := (unhide R2).fro 2
    have f3 := (unhide R2).fro 3
    have hE := end4b (b := brOf none) (m := rb + 1) (unhide R2) (unhide B2) (BrO.nil (fun x => rb + 1 ≤ x ∧ x < _) none 0 (by unfold maxLen; omega)) (unhide HSZ) (Nat.lt_succ_self _)
    have z0 := hE.1.cell 0 rfl
    have z1 := hE.1.cell 1 rfl
    have z2 := hE.1.cell 2 rfl
    have z3 := hE.1.cell 3 rfl
    have HE := hide hE
    unfold set4 at z0 z1 z2 z3
    dsimp only [brOf, Br.key, Br.val, Br.at_] at z0 z1 z2 z3
    clear hE
    go_wp2_with fail
    refine bodyPost_ret (v := .tuple #[.agg #[.string ⟨#[]⟩, .string ⟨#[]⟩, .int .i64 0, .slice none 0 0], .int .i64 c]) (by simp [results, Tryd.results21, go_sem, z0, z1, z2, z3]) rfl ?_
    exact ⟨_, by rw [unhide HO], by rw [unhide HO]; exact (unhide HE).2.1, (unhide HE).2.2⟩
  · have HO : Hid (mdOut (.mk k v a ks) key = (brOf none, 1)) := hide (by unfold mdOut; rw [if_pos h1, h2])
    subst h3
    clear h1 h2 h4
    have r0 := (unhide R2).cell 0 rfl
    have r1 := (unhide R2).cell 1 rfl
    have r2 := (unhide R2).cell 2 rfl
    have r3 := (unhide R2).cell 3 rfl
    have f0 := (unhide R2).fro 0
    have f1 := (unhide R2).fro 1
    have f2 := (unhide R2).fro 2
    have f3 := (unhide R2).fro 3
    have hE := end4b (b := brOf none) (m := rb + 1) (unhide R2) (unhide B2) (BrO.nil (fun x => rb + 1 ≤ x ∧ x < _) none 0 (by unfold maxLen; omega)) (unhide HSZ) (Nat.lt_succ_self _)
    have z0 := hE.1.cell 0 rfl
    have z1 := hE.1.cell 1 rfl
    have z2 := hE.1.cell 2 rfl
    have z3 := hE.1.cell 3 rfl
    have HE := hide hE
    unfold set4 at z0 z1 z2 z3
    dsimp only [brOf, Br.key, Br.val, Br.at_] at z0 z1 z2 z3
    clear hE
    go_wp2_with fail
    refine bodyPost_ret (v := .tuple #[.agg #[.string ⟨#[]⟩, .string ⟨#[]⟩, .int .i64 0, .slice none 0 0], .int .i64 1]) (by simp [results, Tryd.results21, go_sem, z0, z1, z2, z3]) rfl ?_
    exact ⟨_, by rw [unhide HO], by rw [unhide HO]; exact (unhide HE).2.1, (unhide HE).2.2⟩
  · have hk24 := (txC_key h1).2
    have HFD := hide (find_any key hk24 w2 _ pv o h4 (unhide HRI o h3) ((unhide HT).below (unhide B2)))
    have HRO := hide (unhide HRI o h3)
    have HOK := hide (unhide HBR o h3).2
    have HPM := hide h4
    have HO : Hid (mdOut (.mk k v a ks) key = mdO o key) := hide (by unfold mdOut; rw [if_pos h1, h3])
    subst h2
    clear h1 h3 h4 HRI HBR
    go_wp2_with fail
    refine (unhide HFD).mono ?_
    rintro e w3 ⟨qv, rfl, hb3, hq⟩
    have B3 := hide ((unhide B2).trans (hb3.mono (unhide B2).size))
    have R3 := hide ((unhide R2).below hb3)
    have P3 := hide ((unhide HPM).blw hb3)
    clear hb3 HFD HPM
    rcases hq with ⟨hq1, hq2⟩ | ⟨t, q, hq1, hq2, hq3, hq4⟩
    · have HO5 : Hid (mdOut (.mk k v a ks) key = (brOf none, 5)) := hide (by
        rw [unhide HO]
        cases o with
        | none => rfl
        | some t => unfold mdO; dsimp only; rw [if_neg (hq2 t rfl)])
      subst hq1
      clear hq2 HO
      have r0 := (unhide R3).cell 0 rfl
      have r1 := (unhide R3).cell 1 rfl
      have r2 := (unhide R3).cell 2 rfl
      have r3 := (unhide R3).cell 3 rfl
      have f0 := (unhide R3).fro 0
      have f1 := (unhide R3).fro 1
      have f2 := (unhide R3).fro 2
      have f3 := (unhide R3).fro 3
      have hE := end4b (b := brOf none) (m := rb + 1) (unhide R3) (unhide B3) (BrO.nil (fun x => rb + 1 ≤ x ∧ x < _) none 0 (by unfold maxLen; omega)) (unhide HSZ) (Nat.lt_succ_self _)
      have z0 := hE.1.cell 0 rfl
      have z1 := hE.1.cell 1 rfl
      have z2 := hE.1.cell 2 rfl
      have z3 := hE.1.cell 3 rfl
      have HE := hide hE
      unfold set4 at z0 z1 z2 z3
      dsimp only [brOf, Br.key, Br.val, Br.at_] at z0 z1 z2 z3
      clear hE
      go_wp2_with fail
      refine bodyPost_ret (v := .tuple #[.agg #[.string ⟨#[]⟩, .string ⟨#[]⟩, .int .i64 0, .slice none 0 0], .int .i64 5]) (by simp [results, Tryd.results21, go_sem, z0, z1, z2, z3]) rfl ?_
      exact ⟨_, by rw [unhide HO5], by rw [unhide HO5]; exact (unhide HE).2.1, (unhide HE).2.2⟩
    · subst hq1
      subst hq3
      have HO0 : Hid (mdOut (.mk k v a ks) key = (brOf (dropT (kh key) t), 0)) := hide (by
        rw [unhide HO]
        unfold mdO
        dsimp only
        rw [if_pos hq2])
      have x2 := hq4.cell 2 rfl
      obtain ⟨p, rfl, hn⟩ := unhide P3
      have HW := hide (without_any (kh key) (kh_size (by omega)) t 0 w3 _ p hn (unhide HRO))
      have HDO := hide (dropT_ok (kh key) t (unhide HOK))
      clear hq2 hq4 hn P3 HO
      generalize dropT (kh key) t = D at *
      generalize kh key = h at *
      go_wp2_with fail
      refine (unhide HW).mono ?_
      rintro e w4 ⟨pv4, rfl, hp4, hT4⟩
      have B4 := hide ((unhide B3).trans (hT4.below (B := w.heap.size) (unhide B3).size (fun b hb e => by have := (unhide S1).2.1; omega)))
      have R4 := hide ((unhide R3).kept hT4 (fun e => by have := (unhide S1).1; omega))
      have HBC : Hid (Calls Tryd.prog 55 #[.pointer pv4] w4 fun e w' => BranchR (brOf D) w4 e w') := hide (by
        cases D with
        | none =>
          obtain rfl : pv4 = none := hp4
          exact branch_nil w4
        | some t' =>
          obtain ⟨q', rfl, hn'⟩ := hp4
          exact branch_any hn' (unhide HDO) w4 (Below.refl _ _))
      clear hp4 hT4 HW B3 R3 x2
      go_wp2_with fail
      refine (unhide HBC).mono ?_
      rintro e w5 ⟨sa5, n5, c5, rfl, hO5, hb5⟩
      have R5 := hide ((unhide R4).below hb5)
      have B5 := hide ((unhide B4).trans (hb5.mono (unhide B4).size))
      have hE := end4b (unhide R5) (unhide B5) hO5 (unhide HSZ) (unhide R4).1
      clear hb5 hO5 HBC B4
      have r0 := (unhide R5).cell 0 rfl
      have r1 := (unhide R5).cell 1 rfl
      have r2 := (unhide R5).cell 2 rfl
      have r3 := (unhide R5).cell 3 rfl
      have f0 := (unhide R5).fro 0
      have f1 := (unhide R5).fro 1
      have f2 := (unhide R5).fro 2
      have f3 := (unhide R5).fro 3
      have z0 := hE.1.cell 0 rfl
      have z1 := hE.1.cell 1 rfl
      have z2 := hE.1.cell 2 rfl
      have z3 := hE.1.cell 3 rfl
      have HE := hide hE
      unfold set4 at z0 z1 z2 z3
      clear hE
      go_wp2_with fail
      refine bodyPost_ret (v := .tuple #[.agg #[.string (brOf D).key, .string (brOf D).val, .int .i64 (brOf D).at_, .slice sa5 n5 c5], .int .i64 0]) (by simp [results, Tryd.results21, go_sem, z0, z1, z2, z3]) rfl ?_
      exact ⟨_, by rw [unhide HO0], by rw [unhide HO0]; exact (unhide HE).2.1, (unhide HE).2.2⟩
end Go.Proofs.YtcmdilmjdnbfkaaDoor.Sha
namespace Go.Proofs.YtcmdilmjdnbfkaaDoor.Sha
open Go.ChangeShapes Go.WideShapes Go.ChangeAt Go.RowKit
set_option linter.unusedVariables false
set_option linter.unusedSimpArgs false

/-- The copy that grows: the argument's box X, the result's R, the copy's O; the row of kids, and each kid's slices. -/
structure Ow (X R O : Nat) (w wr : World) (ax : List Value) (k v : ByteArray) (a : Int) (l : List Br) (j : Nat) (sv : Value) (xs : List Value) (kvf : Nat → Value) (Si : Nat → Nat → Prop) : Prop where
  x : Blk wr X ax
  r : Blk wr R [.string ⟨#[]⟩, .string ⟨#[]⟩, .int .i64 0, .slice none 0 0]
  o : Blk wr O [.string k, .string v, .int .i64 a, sv]
  own : wr.ownsRow (O + 1) 37 4 sv j xs
  row : RowIs xs l kvf j
  kid : ∀ i, i < j → BrO wr (Si i) (kvf i) (l.getD i default).kids
  sep : ∀ i b, i < j → Si i b → O < b ∧ b < wr.heap.size ∧ sv.ownBlock ≠ some b
  dis : ∀ i i' b, i < i' → i' < j → Si i b → ¬ Si i' b
  b : Below X w wr
  s0 : X < R
  s1 : R < O
variable {X R O : Nat} {w wr : World} {ax : List Value} {k v : ByteArray} {a : Int} {l : List Br} {j : Nat} {sv : Value} {xs : List Value} {kvf : Nat → Value} {Si : Nat → Nat → Prop}
theorem Ow.below {wx : World} (h : Ow X R O w wr ax k v a l j sv xs kvf Si) (hb : Below wr.heap.size wr wx) : Ow X R O w wx ax k v a l j sv xs kvf Si :=
  ⟨h.x.below hb, h.r.below hb, h.o.below hb, own_kept (T := fun _ => False) h.own (Touch.ofBelow hb) (fun _ _ h => h), h.row, fun i hi => (h.kid i hi).blw hb, fun i b hi hs => ⟨(h.sep i b hi hs).1, Nat.lt_of_lt_of_le (h.sep i b hi hs).2.1 hb.size, (h.sep i b hi hs).2.2⟩, h.dis, h.b.trans (hb.mono (Nat.le_of_lt h.x.1)), h.s0, h.s1⟩
theorem Ow.push {w6 w7 : World} {Sk : Nat → Prop} {ks : Value} {m : Nat} (h : Ow X R O w w6 ax k v a l j sv xs kvf Si) (ob : Obj) {gg cg : Nat}
    (hk : BrO w6 Sk ks (l.getD j default).kids) (hS : ∀ b, Sk b → m ≤ b ∧ b < w6.heap.size) (hm : O < m) (hSi : ∀ i b, i < j → Si i b → b < m) (hso : ∀ b, sv.ownBlock = some b → b < m)
    (hown : w7.ownsRow (O + 1) 37 4 (.slice (some ⟨gg, 0, none⟩) (j + 1) cg) (j + 1) (xs ++ [.string (l.getD j default).key, .string (l.getD j default).val, .int .i64 (l.getD j default).at_, ks]))
    (hgrow : (w6.alloc ob).grownBy w7 sv.ownBlock) (hat : sv.ownBlock = some gg ∨ gg = w6.heap.size + 1) :
    Blk w7 O [.string k, .string v, .int .i64 a, sv] ∧ Ow X R O w (w7.setCell ⟨O, 3, none⟩ (.slice (some ⟨gg, 0, none⟩) (j + 1) cg)) ax k v a l (j + 1) (.slice (some ⟨gg, 0, none⟩) (j + 1) cg) (xs ++ [.string (l.getD j default).key, .string (l.getD j default).val, .int .i64 (l.getD j default).at_, ks]) (fun i => if i = j then ks else kvf i) (fun i => if i = j then Sk else Si i) := by
  have t1 : Touch (fun q => sv.ownBlock = some q) w6 w7 := ((Touch.refl (fun q => sv.ownBlock = some q) w6).alloc ob).grown hgrow (fun q hq _ => hq)
  have hlt := fun q (hq : sv.ownBlock = some q) => World.ownsRow.lt h.own q hq
  have o7 : Blk w7 O [.string k, .string v, .int .i64 a, sv] := h.o.kept t1 (fun e => by have := (hlt O e).1; omega)
  have t2 : Touch (fun q => sv.ownBlock = some q ∨ q = O) w6 (w7.setCell ⟨O, 3, none⟩ (.slice (some ⟨gg, 0, none⟩) (j + 1) cg)) :=
    (((Touch.refl (fun q => sv.ownBlock = some q ∨ q = O) w6).trans t1 (fun _ _ h => .inl h))).setCell ⟨O, 3, none⟩ _ (fun _ => .inr rfl)
  have h0 := h.s0
  have h1 := h.s1
  have hO := h.o.1
  have hxl : xs.length = j * 4 := h.own.1
  have hgO : gg ≠ O := by
    rcases hat with e | e
    · have := (hlt gg e).1; omega
    · omega
  have hsz := t2.size
  refine ⟨o7, ?_⟩
  refine ⟨h.x.kept t2 (fun e => ?_), h.r.kept t2 (fun e => ?_), o7.set 3 _ (by simp), ?_, ?_, ?_, ?_, ?_, h.b.trans (t2.below (Nat.le_of_lt h.x.1) (fun q hq e => ?_)), h0, h1⟩
  · rcases e with e | e
    · have := (hlt X e).1; omega
    · omega
  · rcases e with e | e
    · have := (hlt R e).1; omega
    · omega
  · exact own_kept (T := fun q => q = O) hown ((Touch.refl (fun q => q = O) w7).setCell ⟨O, 3, none⟩ _ (fun _ => rfl)) (fun q hq e => by
      have e2 : gg = q := by simpa [Value.ownBlock] using hq
      omega)
  · intro i hi
    by_cases e : i = j
    · subst e
      dsimp only
      rw [if_pos rfl]
      refine ⟨?_, ?_, ?_, ?_⟩ <;> rw [List.getElem?_append_right (by omega), hxl]
      · rw [show i * 4 - i * 4 = 0 by omega]; rfl
      · rw [show i * 4 + 1 - i * 4 = 1 by omega]; rfl
      · rw [show i * 4 + 2 - i * 4 = 2 by omega]; rfl
      · rw [show i * 4 + 3 - i * 4 = 3 by omega]; rfl
    · dsimp only
      rw [if_neg e]
      obtain ⟨e0, e1, e2, e3⟩ := h.row i (by omega)
      rw [List.getElem?_append_left (by omega), List.getElem?_append_left (by omega), List.getElem?_append_left (by omega), List.getElem?_append_left (by omega)]
      exact ⟨e0, e1, e2, e3⟩
  · intro i hi
    by_cases e : i = j
    · subst e
      rw [if_pos rfl, if_pos rfl]
      exact hk.touch t2 (fun b hb e => by
        rcases e with e | e
        · have := hso b e; have := (hS b hb).1; omega
        · have := (hS b hb).1; omega)
    · rw [if_neg e, if_neg e]
      exact (h.kid i (by omega)).touch t2 (fun b hb e => by
        rcases e with e | e
        · exact (h.sep i b (by omega) hb).2.2 e
        · have := (h.sep i b (by omega) hb).1; omega)
  · intro i b hi hb
    by_cases e : i = j
    · subst e
      rw [if_pos rfl] at hb
      have hb2 := hS b hb
      refine ⟨by omega, by omega, fun e2 => ?_⟩
      have e3 : gg = b := by simpa [Value.ownBlock] using e2
      rcases hat with e | e
      · have := hso gg e; omega
      · omega
    · rw [if_neg e] at hb
      have hb2 := h.sep i b (by omega) hb
      refine ⟨hb2.1, by omega, fun e2 => ?_⟩
      have e3 : gg = b := by simpa [Value.ownBlock] using e2
      rcases hat with e | e
      · exact hb2.2.2 (by rw [e, e3])
      · omega
  · intro i i' b hii hi' hb hb2
    by_cases e : i' = j
    · subst e
      rw [if_pos rfl] at hb2
      rw [if_neg (by omega)] at hb
      have := hSi i b (by omega) hb
      have := (hS b hb2).1
      omega
    · rw [if_neg e] at hb2
      rw [if_neg (by omega)] at hb
      exact h.dis i i' b hii (by omega) hb hb2
  · rcases e with e | e
    · have := (hlt q e).1; omega
    · omega
theorem Ow.shape (h : Ow X R O w wr ax k v a l j sv xs kvf Si) : ∃ ga gc, sv = .slice ga j gc := by
  rcases h.own.2 with ⟨rfl, h0⟩ | ⟨g, cap, cur, rfl, _⟩
  · exact ⟨none, 0, by rw [h0]⟩
  · exact ⟨_, _, rfl⟩
theorem Ow.fin {n : Nat} {ga : Option Addr} {gc : Nat} (h : Ow w.heap.size R O w wr ax k v a l l.length (.slice ga l.length gc) xs kvf Si) (hs : ∀ i, i < l.length → (l.getD i default).key.size ≤ maxLen ∧ (l.getD i default).val.size ≤ maxLen) :
    Blk (set4 wr R (.string k) (.string v) (.int .i64 a) (.slice ga l.length gc)) R [.string k, .string v, .int .i64 a, .slice ga l.length gc] ∧
    BrO (set4 wr R (.string k) (.string v) (.int .i64 a) (.slice ga l.length gc)) (fun x => w.heap.size ≤ x ∧ x < (set4 wr R (.string k) (.string v) (.int .i64 a) (.slice ga l.length gc)).heap.size) (.slice ga l.length gc) l ∧
    Below w.heap.size w (set4 wr R (.string k) (.string v) (.int .i64 a) (.slice ga l.length gc)) := by
  have ht := set4_touch wr R (.string k) (.string v) (.int .i64 a) (.slice ga l.length gc)
  have hts := ht.size
  have h0 := h.s0
  have h1 := h.s1
  refine ⟨set4_blk h.r _ _ _ _, ?_, h.b.trans (ht.below h.b.size (fun q hq e => by omega))⟩
  have hO : BrO wr (fun x => w.heap.size ≤ x ∧ x < wr.heap.size ∧ x ≠ R) (.slice ga l.length gc) l := by
    rcases h.own.2 with ⟨e, h0⟩ | ⟨g, cap, cur, e, hg, r⟩
    · obtain rfl := List.eq_nil_of_length_eq_zero h0
      cases e
      exact .nil _ _ _ (by unfold maxLen; omega)
    · have hlt := World.ownsRow.lt h.own
      cases e
      by_cases hl : l.length = 0
      · obtain rfl := List.eq_nil_of_length_eq_zero hl
        exact .nil _ _ _ r.2.2.1
      have hgl := hlt g rfl
      refine BrO.row _ g gc l kvf xs Si (by omega) ⟨by omega, by omega, by omega⟩ (World.ownsRow.mono h.own (Nat.zero_le _)) h.row hs ?_ h.dis h.kid
      intro i b hi hb
      have h3 := h.sep i b hi hb
      exact ⟨⟨by omega, by omega, by omega⟩, fun e => h3.2.2 (by rw [e]; rfl)⟩
  exact (hO.touch ht (fun q hq e => hq.2.2 e)).mono (fun q hq => ⟨hq.1, by omega⟩)
theorem cnt_len : ∀ l : List Br, l.length ≤ cntL l
  | [] => by simp
  | b :: r => by
    have := cnt_len r
    have := Br.cnt_eq b
    rw [cntL_cons, List.length_cons]
    omega
theorem cnt_kid (l : List Br) (j : Nat) (hj : j < l.length) : cntL (l.getD j default).kids ≤ cntL l := by
  have h1 := cnt_take l j hj
  have h2 := cnt_take_le l (j + 1)
  have h3 := Br.cnt_eq (l.getD j default)
  omega
theorem br_eta (b : Br) : Br.mk b.key b.val b.at_ b.kids = b := by cases b; rfl
set_option maxRecDepth 100000 in
set_option maxHeartbeats 4000000 in
theorem l07Own_any {S : Nat → Prop} {w0 : World} {u : Value} {l : List Br} (h : Brs S w0 u l) : ∀ (k v : ByteArray) (a : Int) (w : World), cntL l ≤ 1048576 → Below w0.heap.size w0 w →
    Calls Tryd.prog 48 #[.agg #[.string k, .string v, .int .i64 a, u]] w fun e w' => BranchR (.mk k v a l) w e w' := by
  obtain ⟨i0, hi, hz0, hz1, hz2⟩ := info_parts infoBr
  induction h with
  | nil sa cap hc =>
    intro k v a w hcn hb0
    have HGR : Hid (∀ sa n cap w', BrO w' (fun x => w.heap.size ≤ x ∧ x < w'.heap.size) (.slice sa n cap) [] → Below w.heap.size w w' → BranchR (.mk k v a []) w (.returned (.agg #[.string k, .string v, .int .i64 a, .slice sa n cap])) w') := hide (fun sa n cap w' h1 hb => ⟨sa, n, cap, rfl, h1, hb⟩)
    have G1 : Hid (Ow w.heap.size (w.heap.size + 1) (w.heap.size + 1 + 1) w (((w.alloc (.cells #[.string k, .string v, .int .i64 a, .slice sa 0 cap] 37)).alloc (.cells #[.string ⟨#[]⟩, .string ⟨#[]⟩, .int .i64 0, .slice none 0 0] 37)).alloc (.cells #[.string k, .string v, .int .i64 a, .slice none 0 0] 37)) [.string k, .string v, .int .i64 a, .slice sa 0 cap] k v a [] 0 (.slice none 0 0) [] (fun _ => undef) (fun _ _ => False)) := hide
      ⟨((Blk.new w _ _ w.heap.size rfl).alloc _).alloc _, (Blk.new _ _ _ (w.heap.size + 1) (by simp)).alloc _, Blk.new _ _ _ (w.heap.size + 1 + 1) (by simp), World.ownsRow_nil _ _ _ _, fun i hi => absurd hi (by omega), fun i hi => absurd hi (by omega), fun i b hi => absurd hi (by omega), fun i i' b h1 h2 => absurd h2 (by omega), (((Below.refl _ _).alloc (Nat.le_refl _) _).alloc (by simp) _).alloc (by simp; omega) _, by omega, by omega⟩
    clear hb0
    go_enter Tryd.func48, Tryd.ntmps48
    go_wp2_with fail
    generalize ((w.alloc (.cells #[.string k, .string v, .int .i64 a, .slice sa 0 cap] 37)).alloc (.cells #[.string ⟨#[]⟩, .string ⟨#[]⟩, .int .i64 0, .slice none 0 0] 37)).alloc (.cells #[.string k, .string v, .int .i64 a, .slice none 0 0] 37) = w1 at *
    generalize w.heap.size + 1 + 1 = O at *
    generalize w.heap.size + 1 = R at *
    go_loopw [4] (fun i wr => i = .int .i64 0 ∧ wr = w1) (fun _ _ => 0)
    case atStart => exact ⟨rfl, rfl⟩
    case round =>
      obtain ⟨rfl, hwr⟩ := hrel
      subst wr
      have hE := Ow.fin (n := 0) (l := []) (unhide G1) (fun i hi => absurd hi (by simp))
      have x3 := (unhide G1).x.cell 3 rfl
      have o0 := (unhide G1).o.cell 0 rfl
      have o1 := (unhide G1).o.cell 1 rfl
      have o2 := (unhide G1).o.cell 2 rfl
      have o3 := (unhide G1).o.cell 3 rfl
      have r0 := (unhide G1).r.cell 0 rfl
      have r1 := (unhide G1).r.cell 1 rfl
      have r2 := (unhide G1).r.cell 2 rfl
      have r3 := (unhide G1).r.cell 3 rfl
      have f0 := (unhide G1).r.fro 0
      have f1 := (unhide G1).r.fro 1
      have f2 := (unhide G1).r.fro 2
      have f3 := (unhide G1).r.fro 3
      have z0 := hE.1.cell 0 rfl
      have z1 := hE.1.cell 1 rfl
      have z2 := hE.1.cell 2 rfl
      have z3 := hE.1.cell 3 rfl
      have HE := hide hE
      unfold set4 at z0 z1 z2 z3
      simp only [List.length_nil] at z0 z1 z2 z3
      clear hE
      go_wp2_with fail
      refine bodyPost_ret (v := .agg #[.string k, .string v, .int .i64 a, .slice none 0 0]) (by simp [results, Tryd.results48, go_sem, z0, z1, z2, z3]) rfl ?_
      exact unhide HGR _ _ _ _ (unhide HE).2.1 (unhide HE).2.2
  | row b off cap l kv p0 p1 p2 p3 p4 p5 p6 p7 ih =>
    intro k v a w hcn hb0
    have HC := hide (BrAt.mk p3 p4 p5 p6 p7 : BrAt S w0 b off l kv)
    have HI := hide ih
    have HB0 := hide hb0
    have HSM := hide p6
    have hlm : l.length ≤ 9223372036854775807 := by unfold maxLen at p2; omega
    have hlm2 : l.length ≤ maxLen := by omega
    have hlen := cnt_len l
    have HCK := hide (fun i hi => cnt_kid l i hi)
    have HGR : Hid (∀ sa n cap w', BrO w' (fun x => w.heap.size ≤ x ∧ x < w'.heap.size) (.slice sa n cap) l → Below w.heap.size w w' → BranchR (.mk k v a l) w (.returned (.agg #[.string k, .string v, .int .i64 a, .slice sa n cap])) w') := hide (fun sa n cap w' h1 hb => ⟨sa, n, cap, rfl, h1, hb⟩)
    have G1 : Hid (Ow w.heap.size (w.heap.size + 1) (w.heap.size + 1 + 1) w (((w.alloc (.cells #[.string k, .string v, .int .i64 a, .slice (some ⟨b, off, none⟩) l.length cap] 37)).alloc (.cells #[.string ⟨#[]⟩, .string ⟨#[]⟩, .int .i64 0, .slice none 0 0] 37)).alloc (.cells #[.string k, .string v, .int .i64 a, .slice none 0 0] 37)) [.string k, .string v, .int .i64 a, .slice (some ⟨b, off, none⟩) l.length cap] k v a l 0 (.slice none 0 0) [] (fun _ => undef) (fun _ _ => False)) := hide
      ⟨((Blk.new w _ _ w.heap.size rfl).alloc _).alloc _, (Blk.new _ _ _ (w.heap.size + 1) (by simp)).alloc _, Blk.new _ _ _ (w.heap.size + 1 + 1) (by simp), World.ownsRow_nil _ _ _ _, fun i hi => absurd hi (by omega), fun i hi => absurd hi (by omega), fun i b hi => absurd hi (by omega), fun i i' b h1 h2 => absurd h2 (by omega), (((Below.refl _ _).alloc (Nat.le_refl _) _).alloc (by simp) _).alloc (by simp; omega) _, by omega, by omega⟩
    clear p3 p4 p5 p6 p7 ih hb0 p1 p2
    go_enter Tryd.func48, Tryd.ntmps48
    go_wp2_with fail
    generalize ((w.alloc (.cells #[.string k, .string v, .int .i64 a, .slice (some ⟨b, off, none⟩) l.length cap] 37)).alloc (.cells #[.string ⟨#[]⟩, .string ⟨#[]⟩, .int .i64 0, .slice none 0 0] 37)).alloc (.cells #[.string k, .string v, .int .i64 a, .slice none 0 0] 37) = w1 at *
    generalize w.heap.size + 1 + 1 = O at *
    generalize w.heap.size + 1 = R at *
    go_loopw [4] (fun i wr => ∃ (j : Nat) (sv : Value) (xs : List Value) (kvf : Nat → Value) (Si : Nat → Nat → Prop), j ≤ l.length ∧ i = .int .i64 j ∧ Ow w.heap.size R O w wr [.string k, .string v, .int .i64 a, .slice (some ⟨b, off, none⟩) l.length cap] k v a l j sv xs kvf Si) (fun i _ => l.length - (intOf i).toNat)
    case atStart => exact ⟨0, _, _, _, _, Nat.zero_le _, rfl, unhide G1⟩
    case round =>
      obtain ⟨j, sv, xs, kvf, Si, hj, rfl, hG⟩ := hrel
      obtain ⟨ga, gc, rfl⟩ := hG.shape
      by_cases hlt : j < l.length
      · obtain ⟨s0, s1, s2, s3⟩ := (unhide HC).cells j hlt
        have hbl := (unhide HC).lt
        have hbw := (unhide HB0).trans (hG.b.mono (unhide HB0).size)
        have c0 := (hbw.cell (p := ⟨b, off + j * 4, none⟩) hbl).trans s0
        have c1 := (hbw.cell (p := ⟨b, off + j * 4 + 1, none⟩) hbl).trans s1
        have c2 := (hbw.cell (p := ⟨b, off + j * 4 + 2, none⟩) hbl).trans s2
        have c3 := (hbw.cell (p := ⟨b, off + j * 4 + 3, none⟩) hbl).trans s3
        obtain ⟨ka, kc, hkv, _, _⟩ := ((unhide HC).kids j hlt).shape
        have x3 := hG.x.cell 3 rfl
        have o3 := hG.o.cell 3 rfl
        have hO1 := hG.o.1
        have HRT := hide (unhide HI j hlt (l.getD j default).key (l.getD j default).val (l.getD j default).at_ wr.drew (by have := unhide HCK j hlt; omega) (below_drewN hbw 1))
        rw [br_eta, hkv] at HRT
        rw [hkv] at c3
        have HGB := hide (fun wx (hx : Below wr.heap.size wr wx) => hG.below hx)
        have HSI := hide (fun i b hi hb => (hG.sep i b hi hb).2.1)
        have HSO := hide (fun b hb => (World.ownsRow.lt hG.own b hb).2)
        have hxl : xs.length = j * 4 := hG.own.1
        have k0 : (0 : Int) ≤ (j : Int) := by omega
        have k1 : (j : Int) < (l.length : Int) := by omega
        have hj2 : j + 1 ≤ maxLen := by omega
        clear s0 s1 s2 s3 hbw hG hkv
        obtain ⟨kb, hkb⟩ : ∃ kb, kb = l.getD j default := ⟨_, rfl⟩
        rw [← hkb] at c0 c1 c2 c3 HRT
        have HKB := hide hkb
        clear hkb
        go_wp2_with fail
        go_region_law (first
          | (go_simp; go_at_call 48; refine (unhide HRT).mono ?_; rintro e w6 ⟨s1, n1, e1, rfl, hO6, hb6⟩; have hb6' : Below wr.heap.size wr w6 := (below_drewN (Below.refl _ wr) 1).trans hb6; have G6 := unhide HGB w6 hb6'; have k3 := G6.o.cell 3 rfl; have k4 := (((Below.refl w6.heap.size w6).alloc (Nat.le_refl _) (.cells #[.string kb.key, .string kb.val, .int .i64 kb.at_, .slice s1 n1 e1] 37)).cell (p := ⟨O, 3, none⟩) G6.o.1).trans k3; go_simp)
          | (refine step_append_lies _ (by rfl) _ _ _ (by rfl) (O + 1) 37 i0 _ 4 64 Tryd.underlying35 hi hz0 hz1 hz2 rfl (by omega) (.slice ga j gc) j xs (by rfl) (own_kept (T := fun _ => False) G6.own ((Touch.refl _ _).alloc (.cells #[.string kb.key, .string kb.val, .int .i64 kb.at_, .slice s1 n1 e1] 37)) (fun _ _ h => h)) ⟨w6.heap.size, 0, none⟩ 1 1 [.string kb.key, .string kb.val, .int .i64 kb.at_, .slice s1 n1 e1] (by rfl) (by rfl) (World.news_of_block (cs := #[.string kb.key, .string kb.val, .int .i64 kb.at_, .slice s1 n1 e1]) (t := 37) (fr := (0, 0)) (heap_alloc_new w6 _)) (by simp [Value.oneCell']) (by omega) hj2 (by omega) (by have := G6.o.1; simp; omega) (w6.heap.size + 1) (by simp) ?_; intro gg cg w7 hown7 hgrow7 hat7 hlt7; rw [unhide HKB] at hown7 hO6; obtain ⟨O7, G7⟩ := G6.push _ hO6 (fun b hb => hb) hO1 (unhide HSI) (unhide HSO) hown7 hgrow7 hat7; have k7 := O7.cell 3 rfl; have f7 := O7.fro 3))
        all_goals
          have HG7 := hide G7
          clear k3 k4 k7 f7 O7 G7 G6 hown7 hgrow7 hat7 hlt7 hb6 hb6' hO6 x3 o3 c0 c1 c2 c3
          go_wp2_with fail
          refine ⟨⟨j + 1, _, _, _, _, by omega, by go_num, unhide HG7⟩, ?_⟩
          simp [intOf]; omega
      · obtain rfl : j = l.length := by omega
        have hE := Ow.fin (n := 0) hG (unhide HSM)
        have G1 := hide hG
        clear hG
        have x3 := (unhide G1).x.cell 3 rfl
        have o0 := (unhide G1).o.cell 0 rfl
        have o1 := (unhide G1).o.cell 1 rfl
        have o2 := (unhide G1).o.cell 2 rfl
        have o3 := (unhide G1).o.cell 3 rfl
        have r0 := (unhide G1).r.cell 0 rfl
        have r1 := (unhide G1).r.cell 1 rfl
        have r2 := (unhide G1).r.cell 2 rfl
        have r3 := (unhide G1).r.cell 3 rfl
        have f0 := (unhide G1).r.fro 0
        have f1 := (unhide G1).r.fro 1
        have f2 := (unhide G1).r.fro 2
        have f3 := (unhide G1).r.fro 3
        have z0 := hE.1.cell 0 rfl
        have z1 := hE.1.cell 1 rfl
        have z2 := hE.1.cell 2 rfl
        have z3 := hE.1.cell 3 rfl
        have HE := hide hE
        unfold set4 at z0 z1 z2 z3
        clear hE
        go_wp2_with fail
        refine bodyPost_ret (v := .agg #[.string k, .string v, .int .i64 a, .slice ga l.length gc]) (by simp [results, Tryd.results48, go_sem, z0, z1, z2, z3]) rfl ?_
        exact unhide HGR _ _ _ _ (unhide HE).2.1 (unhide HE).2.2
end Go.Proofs.YtcmdilmjdnbfkaaDoor.Sha
namespace Go.Proofs.YtcmdilmjdnbfkaaDoor
open Go.ChangeShapes Go.WideShapes Go.ChangeAt Go.RowKit
set_option linter.unusedVariables false

/-- The value is a slice of m elements, whose cells are these. -/
def Rw (w : World) (x : Value) (m : Nat) (news : List Value) : Prop := ∃ a cap, x = .slice a m cap ∧ (m = 0 ∨ ∃ ad : Addr, a = some ad ∧ ∀ j u, news[j]? = some u → w.cell? (ad.add j) = some u)
theorem run_append_row {P : Program} (w : World) (base : Nat) (t ty e : TypeId) (i : TypeInfo) (z : Value) (size bytes : Nat) (ht : P.underlying t = some (.slice e)) (hi : P.info? e = some i) (hz : i.zero = some z) (hsize : i.size = size) (hby : i.bytes = bytes) (hzs : z.cells.size = size) (hsz : 0 < size)
    (v : Value) (n : Nat) (xs : List Value) (hown : w.ownsRow base e size v n xs) (x : Value) (m : Nat) (news : List Value) (hR : Rw w x m news) (hl : news.length = m * size) (h1 : ∀ u ∈ news, u.oneCell' = true) (h63 : n + m ≤ maxLen) (hb : (n + m) * bytes ≤ 140737488355328) (hbase : base ≤ w.heap.size) :
    ∃ a' c' w', (Builtin.append_ #[t, t] ty #[v, x]).run P w = .ok (.slice a' (n + m) c') w' ∧ w'.ownsRow base e size (.slice a' (n + m) c') (n + m) (xs ++ news) ∧ w.grownBy w' v.ownBlock ∧ ((Value.slice a' (n + m) c').ownBlock = v.ownBlock ∨ (Value.slice a' (n + m) c').ownBlock = some w.heap.size) := by
  have key : ∃ v' w', (Builtin.append_ #[t, t] ty #[v, x]).run P w = .ok v' w' ∧ w'.ownsRow base e size v' (n + m) (xs ++ news) ∧ w.grownBy w' v.ownBlock ∧ (v'.ownBlock = v.ownBlock ∨ v'.ownBlock = some w.heap.size) := by
    obtain ⟨a, cap, rfl, hc⟩ := hR
    cases a with
    | none =>
      have hm0 : m = 0 := by
        rcases hc with h0 | ⟨ad, ha, _⟩
        · exact h0
        · cases ha
      subst hm0
      have hn0 : news = [] := List.eq_nil_of_length_eq_zero (by omega)
      subst hn0
      refine ⟨v, w, ?_, by simpa using hown, World.grownBy.refl _ _, .inl rfl⟩
      rcases hown.2 with ⟨rfl, _⟩ | ⟨g, cp, cur, rfl, _, _, hnc, _⟩
      · exact Go.run_append_nothing w t t ty e i ht hi none 0 0 (Nat.le_refl _) _ (Go.Src.ofNil (w := w) ht cap)
      · exact Go.run_append_nothing w t t ty e i ht hi _ n cp hnc _ (Go.Src.ofNil (w := w) ht cap)
    | some ad =>
      have hnews : ∀ j u, news[j]? = some u → w.cell? (ad.add j) = some u := fun j u hu => by
        rcases hc with h0 | ⟨b, ha, hcell⟩
        · subst h0
          have hn0 : news = [] := List.eq_nil_of_length_eq_zero (by omega)
          rw [hn0] at hu; cases hu
        · cases ha; exact hcell j u hu
      obtain ⟨v', w', hr', h2, h3, h4, h5⟩ := run_append_own_at (P := P) w base t ty e i z size bytes ht hi hz hsize hby hzs hsz v n xs hown ad m cap news hl hnews h1 h63 hb hbase
      exact ⟨v', w', hr', h2, h3, h5⟩
  obtain ⟨v', w', hr', h2, h3, h4⟩ := key
  rcases own_shape h2 with ⟨rfl, h0⟩ | ⟨g, c, rfl, _⟩
  · rw [h0] at h2 ⊢
    exact ⟨none, 0, w', hr', h2, h3, h4⟩
  · exact ⟨_, _, w', hr', h2, h3, h4⟩
theorem step_append_row {P : Program} {w : World} {ops : Array Oper} {o : Oper} {a : Act} {K : Act → World → Prop} {Q : Exit → Act → World → Prop} {E : Prop} (hgd : o.guard = none) (s x : Operand) (t : TypeId)
    (ho : o.op = .call { callee := .builtin .append, args := #[s, x], argTypes := #[t, t] })
    (base : Nat) (e : TypeId) (i : TypeInfo) (z : Value) (size bytes : Nat) (ht : P.underlying t = some (.slice e)) (hi : P.info? e = some i) (hz : i.zero = some z) (hsize : i.size = size) (hby : i.bytes = bytes) (hzs : z.cells.size = size) (hsz : 0 < size)
    (v : Value) (n : Nat) (xs : List Value) (hs : a.eval s = v) (hown : w.ownsRow base e size v n xs) (xv : Value) (m : Nat) (news : List Value) (hx : a.eval x = xv) (hR : Rw w xv m news) (hl : news.length = m * size) (h1 : ∀ u ∈ news, u.oneCell' = true) (h63 : n + m ≤ maxLen) (hb : (n + m) * bytes ≤ 140737488355328) (hbase : base ≤ w.heap.size)
    (h : ∀ a' c' w', w'.ownsRow base e size (.slice a' (n + m) c') (n + m) (xs ++ news) → w.grownBy w' v.ownBlock → ((Value.slice a' (n + m) c').ownBlock = v.ownBlock ∨ (Value.slice a' (n + m) c').ownBlock = some w.heap.size) → K (a.put o.dst (.slice a' (n + m) c')) w') :
    if Region.wanted o (yielded ops a.tmps) = true then Oper.wp P o a w K Q else E := by
  have hw : Region.wanted o (yielded ops a.tmps) = true := by simp [Region.wanted, hgd]
  rw [if_pos hw]
  obtain ⟨a', c', w', hr, h2, h3, h4⟩ := run_append_row (P := P) w base t o.type e i z size bytes ht hi hz hsize hby hzs hsz v n xs hown xv m news hR hl h1 h63 hb hbase
  unfold Oper.wp execOp
  simp only [ho, resolve, invoke, builtin, Sem.run_bind, Sem.run_pure, Result.andThen_ok, List.map_toArray, List.map_cons, List.map_nil, hs, hx, hr]
  exact h a' c' w' h2 h3 h4
theorem wpList_append_row {P : Program} (w : World) {ops : Array Oper} {rest : List Oper} {o : Oper} {a : Act} {Q : Exit → Act → World → Prop} (hgd : o.guard = none) (s x : Operand) (t : TypeId)
    (ho : o.op = .call { callee := .builtin .append, args := #[s, x], argTypes := #[t, t] })
    (base : Nat) (e : TypeId) (i : TypeInfo) (z : Value) (size bytes : Nat) (ht : P.underlying t = some (.slice e)) (hi : P.info? e = some i) (hz : i.zero = some z) (hsize : i.size = size) (hby : i.bytes = bytes) (hzs : z.cells.size = size) (hsz : 0 < size)
    (v : Value) (n : Nat) (xs : List Value) (hs : a.eval s = v) (hown : w.ownsRow base e size v n xs) (xv : Value) (m : Nat) (news : List Value) (hx : a.eval x = xv) (hR : Rw w xv m news) (hl : news.length = m * size) (h1 : ∀ u ∈ news, u.oneCell' = true) (h63 : n + m ≤ maxLen) (hb : (n + m) * bytes ≤ 140737488355328) (hbase : base ≤ w.heap.size)
    (h : ∀ a' c' w', w'.ownsRow base e size (.slice a' (n + m) c') (n + m) (xs ++ news) → w.grownBy w' v.ownBlock → ((Value.slice a' (n + m) c').ownBlock = v.ownBlock ∨ (Value.slice a' (n + m) c').ownBlock = some w.heap.size) → wpList P ops Q rest (a.put o.dst (.slice a' (n + m) c')) w') :
    wpList P ops Q (o :: rest) a w := by
  refine wpList_plain hgd fun K hK => ?_
  obtain ⟨a', c', w', hr, h2, h3, h4⟩ := run_append_row (P := P) w base t o.type e i z size bytes ht hi hz hsize hby hzs hsz v n xs hown xv m news hR hl h1 h63 hb hbase
  unfold Oper.wp execOp
  simp only [ho, resolve, invoke, builtin, Sem.run_bind, Sem.run_pure, Result.andThen_ok, List.map_toArray, List.map_cons, List.map_nil, hs, hx, hr]
  exact hK _ _ (h a' c' w' h2 h3 h4)
theorem Strs.rw {w : World} {v : Value} {l : List ByteArray} (h : Strs w v l) : Rw w v l.length (l.map Value.string) := by
  obtain ⟨a, cap, rfl, hm, hc⟩ := h
  refine ⟨a, cap, rfl, ?_⟩
  rcases hc with h0 | ⟨b, off, rfl, hlt, hc⟩
  · exact .inl h0
  · refine .inr ⟨_, rfl, fun j u hu => ?_⟩
    have hadd : (⟨b, off, none⟩ : Addr).add j = ⟨b, off + j, none⟩ := by unfold Addr.add; split <;> simp_all
    rw [List.getElem?_map] at hu
    by_cases hj : j < l.length
    · rw [hadd, hc j hj]
      rw [List.getElem?_eq_getElem hj] at hu
      rw [List.getD_eq_getElem?_getD, List.getElem?_eq_getElem hj]
      simpa using hu
    · rw [List.getElem?_eq_none (by omega)] at hu; cases hu
end Go.Proofs.YtcmdilmjdnbfkaaDoor
namespace Go.Proofs.YtcmdilmjdnbfkaaDoor.Sha
open Go.ChangeShapes Go.WideShapes Go.ChangeAt Go.RowKit
set_option linter.unusedVariables false
set_option linter.unusedSimpArgs false

/-- What l07Drop answers: a branch that can be read. -/
def DrR (B0 : Nat) (b : Br) (w : World) (e : Ending) (w' : World) : Prop := ∃ sa n cap, e = .returned (.agg #[.string b.key, .string b.val, .int .i64 b.at_, .slice sa n cap]) ∧ Brs (fun x => x < B0 ∨ w.heap.size ≤ x) w' (.slice sa n cap) b.kids ∧ Below w.heap.size w w'
/-- The fork with its kid changed, or the other kid. -/
def repl (kb a : Nat) (hv : ByteArray) (l r tq : Tr) : Option Tr → Tr
  | none => tq
  | some t' => if kb = 0 then .fork a hv t' r else .fork a hv l t'
theorem drop_0 (h : ByteArray) (a : Nat) (hv : ByteArray) (l r : Tr) (hb : bitN h a = 0) : dropT h (.fork a hv l r) = some (repl 0 a hv l r r (dropT h l)) := by
  have e : dropT h (.fork a hv l r) = if bitN h a = 0 then (match dropT h l with | none => some r | some l' => some (.fork a hv l' r)) else (match dropT h r with | none => some l | some r' => some (.fork a hv l r')) := rfl
  rw [e, if_pos hb]
  cases dropT h l <;> rfl
theorem drop_1 (h : ByteArray) (a : Nat) (hv : ByteArray) (l r : Tr) (hb : bitN h a = 1) : dropT h (.fork a hv l r) = some (repl 1 a hv l r l (dropT h r)) := by
  have e : dropT h (.fork a hv l r) = if bitN h a = 0 then (match dropT h l with | none => some r | some l' => some (.fork a hv l' r)) else (match dropT h r with | none => some l | some r' => some (.fork a hv l r')) := rfl
  rw [e, if_neg (by omega)]
  cases dropT h r <;> rfl
theorem grown6 {w w5 w6 : World} {E : Nat} (hb : Below w.heap.size w w5) (hg : w5.grownBy w6 (some E)) (hE : w.heap.size ≤ E) : Below w.heap.size w w6 := hb.grown hg hb.size (fun r hr => by cases hr; exact hE)
theorem grownT {w5 w6 : World} {E : Nat} (hg : w5.grownBy w6 (some E)) : Touch (fun q => q = E) w5 w6 := (Touch.refl (fun q => q = E) w5).grown hg (fun q hq _ => by cases hq; rfl)
/-- The cells of two branches in a row. -/
def row2 (b0 b1 : Br) (v0 v1 : Value) : List Value := [.string b0.key, .string b0.val, .int .i64 b0.at_, v0, .string b1.key, .string b1.val, .int .i64 b1.at_, v1]
theorem brs_two {T : Nat → Prop} {B g c : Nat} {w : World} {b0 b1 : Br} {v0 v1 : Value} (h : w.ownsRow B 37 4 (.slice (some ⟨g, 0, none⟩) 2 c) 2 (row2 b0 b1 v0 v1)) (z0 : b0.key.size ≤ maxLen ∧ b0.val.size ≤ maxLen) (z1 : b1.key.size ≤ maxLen ∧ b1.val.size ≤ maxLen) (k0 : Brs T w v0 b0.kids) (k1 : Brs T w v1 b1.kids) (hT : T g) :
    Brs T w (.slice (some ⟨g, 0, none⟩) 2 c) [b0, b1] := by
  obtain ⟨hl, hc⟩ := id h
  rcases hc with ⟨hx, _⟩ | ⟨g', cap', cur, hv, hb, hg, hn, hm, hz, ht⟩
  · cases hx
  · simp only [Value.slice.injEq, Option.some.injEq, Addr.mk.injEq] at hv
    obtain ⟨⟨rfl, _, _⟩, _, rfl⟩ := hv
    refine .row g 0 c [b0, b1] (fun i => if i = 0 then v0 else v1) (by simp) hn hm (Array.getElem?_eq_some_iff.1 hg).1 hT (fun i hi => ?_) (fun i hi => ?_) (fun i hi => ?_)
    · have hi2 : i < 2 := hi
      rw [Nat.zero_add]
      rcases (show i = 0 ∨ i = 1 by omega) with rfl | rfl
      · exact ⟨(h.cellAt 0 (by omega)).trans rfl, (h.cellAt 1 (by omega)).trans rfl, (h.cellAt 2 (by omega)).trans rfl, (h.cellAt 3 (by omega)).trans rfl⟩
      · exact ⟨(h.cellAt 4 (by omega)).trans rfl, (h.cellAt 5 (by omega)).trans rfl, (h.cellAt 6 (by omega)).trans rfl, (h.cellAt 7 (by omega)).trans rfl⟩
    · have hi2 : i < 2 := hi
      rcases (show i = 0 ∨ i = 1 by omega) with rfl | rfl
      · exact z0
      · exact z1
    · have hi2 : i < 2 := hi
      rcases (show i = 0 ∨ i = 1 by omega) with rfl | rfl
      · exact k0
      · exact k1
theorem drop_some (h : ByteArray) (a : Nat) (hv : ByteArray) (l r : Tr) : ∃ t', dropT h (.fork a hv l r) = some t' := by
  rcases bitN_01 h a with hb | hb
  · exact ⟨_, drop_0 h a hv l r hb⟩
  · exact ⟨_, drop_1 h a hv l r hb⟩
theorem row2_rw {S : Nat → Prop} {w wx : World} {bb off cap : Nat} {b0 b1 : Br} {kvf : Nat → Value} (h : BrAt S w bb off [b0, b1] kvf) (hb : Below w.heap.size w wx) : Rw wx (.slice (some ⟨bb, off, none⟩) 2 cap) 2 (row2 b0 b1 (kvf 0) (kvf 1)) := by
  obtain ⟨s0, s1, s2, s3⟩ := h.cells 0 (by simp)
  obtain ⟨d0, d1, d2, d3⟩ := h.cells 1 (by simp)
  have e : ∀ i, wx.cell? ⟨bb, i, none⟩ = w.cell? ⟨bb, i, none⟩ := fun i => hb.cell (p := ⟨bb, i, none⟩) h.lt
  have ea : ∀ i, (⟨bb, off, none⟩ : Addr).add i = ⟨bb, off + i, none⟩ := fun i => by unfold Addr.add; split <;> simp_all
  refine ⟨_, cap, rfl, .inr ⟨_, rfl, fun j u hj => ?_⟩⟩
  rw [ea, e]
  have hj8 : j < 8 := (List.getElem?_eq_some_iff.1 hj).1
  simp only [Nat.zero_mul, Nat.add_zero, Nat.one_mul] at s0 s1 s2 s3 d0 d1 d2 d3
  rcases (show j = 0 ∨ j = 1 ∨ j = 2 ∨ j = 3 ∨ j = 4 ∨ j = 5 ∨ j = 6 ∨ j = 7 by omega) with rfl | rfl | rfl | rfl | rfl | rfl | rfl | rfl <;> (cases hj; assumption)
theorem row2_one {b0 b1 : Br} {a0 a1 : Option Addr} {n0 n1 c0 c1 : Nat} : ∀ u ∈ row2 b0 b1 (.slice a0 n0 c0) (.slice a1 n1 c1), u.oneCell' = true := by
  intro u hu
  simp only [row2, List.mem_cons, List.not_mem_nil, or_false] at hu
  rcases hu with rfl | rfl | rfl | rfl | rfl | rfl | rfl | rfl <;> rfl
set_option maxRecDepth 100000 in
set_option maxHeartbeats 4000000 in
theorem l07Drop_any (h key : ByteArray) (hh : h.size = 32) : ∀ (t : Tr), TrOK t → ∀ (m : Nat), Rise m t → (leadL h t).1 = key → ∀ (B0 : Nat) (kv : Value) (w : World), B0 ≤ w.heap.size → Brs (fun x => x < B0) w kv t.toBr.kids →
    Calls Tryd.prog 49 #[.agg #[.string t.toBr.key, .string t.toBr.val, .int .i64 t.toBr.at_, kv], .string h, .string key] w fun e w' => DrR B0 (brOf (dropT h t)) w e w' := by
  intro t
  induction t with
  | leaf k v =>
    intro hok m hr hle B0 kv w hB0 hB
    obtain ⟨sa, cap, rfl, hcap, hcm⟩ := hB.shape
    have HLF := hide (fun wx => l07Leaf_any k v 256 sa 0 cap wx (by unfold maxLen at hcm ⊢; omega))
    rw [show decide ((0 : Nat) = 0) = true from rfl] at HLF
    have HGR : Hid (∀ w', Below w.heap.size w w' → DrR B0 (brOf (dropT h (.leaf k v))) w (.returned (.agg #[.string ⟨#[]⟩, .string ⟨#[]⟩, .int .i64 0, .slice none 0 0])) w') := hide (fun w' hb => ⟨none, 0, 0, rfl, .nil _ _ (by unfold maxLen; omega), hb⟩)
    have B1 := hide (((Below.refl w.heap.size w).alloc (Nat.le_refl _) (.cells #[.string k, .string v, .int .i64 256, .slice sa 0 cap] 37)).alloc (by simp) (.cells #[.string ⟨#[]⟩, .string ⟨#[]⟩, .int .i64 0, .slice none 0 0] 37))
    have R1 := hide (Blk.new (w.alloc (.cells #[.string k, .string v, .int .i64 256, .slice sa 0 cap] 37)) #[.string ⟨#[]⟩, .string ⟨#[]⟩, .int .i64 0, .slice none 0 0] 37 (w.heap.size + 1) (by simp))
    have HRS := hide (show w.heap.size < w.heap.size + 1 by omega)
    dsimp only [Tr.toBr, Br.key, Br.val, Br.at_, Br.kids, List.length_nil] at hB hcap ⊢
    clear hB hok hr hle
    go_enter Tryd.func49, Tryd.ntmps49
    go_wp2_with fail
    generalize (w.alloc (.cells #[.string k, .string v, .int .i64 256, .slice sa 0 cap] 37)).alloc (.cells #[.string ⟨#[]⟩, .string ⟨#[]⟩, .int .i64 0, .slice none 0 0] 37) = w1 at *
    generalize w.heap.size + 1 = R at *
    refine (unhide HLF w1).mono ?_
    rintro e w2 ⟨rfl, hb2⟩
    have B2 := hide ((unhide B1).trans (hb2.mono (unhide B1).size))
    have R2 := hide ((unhide R1).below hb2)
    clear hb2 B1 R1
    have r0 := (unhide R2).cell 0 rfl
    have r1 := (unhide R2).cell 1 rfl
    have r2 := (unhide R2).cell 2 rfl
    have r3 := (unhide R2).cell 3 rfl
    have f0 := (unhide R2).fro 0
    have f1 := (unhide R2).fro 1
    have f2 := (unhide R2).fro 2
    have f3 := (unhide R2).fro 3
    have hZ := set4_blk (unhide R2) (.string ⟨#[]⟩) (.string ⟨#[]⟩) (.int .i64 0) (.slice none 0 0)
    have z0 := hZ.cell 0 rfl
    have z1 := hZ.cell 1 rfl
    have z2 := hZ.cell 2 rfl
    have z3 := hZ.cell 3 rfl
    have HT4 := hide (set4_touch w2 R (.string ⟨#[]⟩) (.string ⟨#[]⟩) (.int .i64 0) (.slice none 0 0))
    have HBF := hide ((unhide B2).trans ((unhide HT4).below (unhide B2).size (fun q hq e => by have := (unhide HRS); omega)))
    unfold set4 at z0 z1 z2 z3
    clear hZ
    go_wp2_with fail
    refine bodyPost_ret (v := .agg #[.string ⟨#[]⟩, .string ⟨#[]⟩, .int .i64 0, .slice none 0 0]) (by simp [results, Tryd.results49, go_sem, z0, z1, z2, z3]) rfl ?_
    exact unhide HGR _ (unhide HBF)
  | fork a hv l r ihl ihr =>
    intro hok m hr hle B0 kv w hB0 hB
    obtain ⟨ha, _, okl, okr⟩ := hok
    obtain ⟨r0, r1, r2, r3⟩ := hr
    obtain ⟨sa, cap, rfl, hcap, hcm⟩ := hB.shape
    have hkm := hcm
    obtain ⟨kb, no, tn, tq, hkb, hwr, hb2, hn2, HLE, HDT, hrn, okn, oko, hgn, hgo, IH⟩ : ∃ (kb no : Nat) (tn tq : Tr), bitN h a = kb ∧ IntKind.i64.wrap (1 - (kb : Int)) = (no : Int) ∧ kb < 2 ∧ no < 2 ∧ Hid (leadL h (.fork a hv l r) = leadL h tn) ∧ Hid (dropT h (.fork a hv l r) = some (repl kb a hv l r tq (dropT h tn))) ∧ Rise (a + 1) tn ∧ TrOK tn ∧ TrOK tq ∧ ([l.toBr, r.toBr] : List Br).getD kb default = tn.toBr ∧ ([l.toBr, r.toBr] : List Br).getD no default = tq.toBr ∧
        Hid ((leadL h tn).1 = key → ∀ (B0 : Nat) (kv : Value) (w : World), B0 ≤ w.heap.size → Brs (fun x => x < B0) w kv tn.toBr.kids → Calls Tryd.prog 49 #[.agg #[.string tn.toBr.key, .string tn.toBr.val, .int .i64 tn.toBr.at_, kv], .string h, .string key] w fun e w' => DrR B0 (brOf (dropT h tn)) w e w') := by
      rcases bitN_01 h a with hb | hb
      · exact ⟨0, 1, l, r, hb, by decide, by omega, by omega, hide (by conv => lhs; unfold leadL; rw [if_pos hb]), hide (drop_0 h a hv l r hb), r2, okl, okr, rfl, rfl, hide (fun e => ihl okl _ r2 e)⟩
      · exact ⟨1, 0, r, l, hb, by decide, by omega, by omega, hide (by conv => lhs; unfold leadL; rw [if_neg (by omega)]), hide (drop_1 h a hv l r hb), r3, okr, okl, rfl, rfl, hide (fun e => ihr okr _ r3 e)⟩
    clear ihl ihr
    have HLK := hide ((congrArg Prod.fst (unhide HLE)).symm.trans hle)
    have IH2 := hide (unhide IH (unhide HLK))
    clear IH
    rw [unhide HDT]
    have HGR : Hid (∀ sa n cap w', Brs (fun x => x < B0 ∨ w.heap.size ≤ x) w' (.slice sa n cap) (repl kb a hv l r tq (dropT h tn)).toBr.kids → Below w.heap.size w w' → DrR B0 (brOf (some (repl kb a hv l r tq (dropT h tn)))) w (.returned (.agg #[.string (repl kb a hv l r tq (dropT h tn)).toBr.key, .string (repl kb a hv l r tq (dropT h tn)).toBr.val, .int .i64 (repl kb a hv l r tq (dropT h tn)).toBr.at_, .slice sa n cap])) w') := hide (fun sa n cap w' h1 hb => ⟨sa, n, cap, rfl, h1, hb⟩)
    dsimp only [Tr.toBr, Br.key, Br.val, Br.at_, Br.kids] at hB hcap ⊢
    rw [show ([l.toBr, r.toBr] : List Br).length = 2 from rfl] at hB hcap ⊢
    obtain ⟨bb, off, kvf, rfl, _, hat⟩ := hB.at (by simp)
    have hbb := hat.lt
    obtain ⟨s0, s1, s2, s3⟩ := hat.cells no (by simpa using hn2)
    obtain ⟨d0, d1, d2, d3⟩ := hat.cells kb (by simpa using hb2)
    have KO := hide (hat.kids no (by simpa using hn2))
    have KN := hide (hat.kids kb (by simpa using hb2))
    rw [hgo] at s0 s1 s2 KO
    rw [hgn] at d0 d1 d2 KN
    obtain ⟨kao, kco, hkvo, _, _⟩ := (unhide KO).shape
    obtain ⟨kan, kcn, hkvn, _, hknm⟩ := (unhide KN).shape
    rw [hkvo] at KO s3
    rw [hkvn] at KN d3
    have HLF := hide (fun wx => l07Leaf_any ⟨#[]⟩ ⟨#[]⟩ a (some ⟨bb, off, none⟩) 2 cap wx (by unfold maxLen at hkm ⊢; omega))
    rw [show decide ((2 : Nat) = 0) = false from rfl] at HLF
    have HLX := hide (fun wx => l07Leaf_any tn.toBr.key tn.toBr.val tn.toBr.at_ kan tn.toBr.kids.length kcn wx (by unfold maxLen at hknm ⊢; have := (unhide KN).shape; omega))
    have HBT := hide (fun wx => l07Bit_any h a wx hh r1)
    rw [hkb] at HBT
    have B1 := hide (((Below.refl w.heap.size w).alloc (Nat.le_refl _) (.cells #[.string ⟨#[]⟩, .string ⟨#[]⟩, .int .i64 a, .slice (some ⟨bb, off, none⟩) 2 cap] 37)).alloc (by simp) (.cells #[.string ⟨#[]⟩, .string ⟨#[]⟩, .int .i64 0, .slice none 0 0] 37))
    have X1 := hide ((Blk.new w #[.string ⟨#[]⟩, .string ⟨#[]⟩, .int .i64 a, .slice (some ⟨bb, off, none⟩) 2 cap] 37 w.heap.size rfl).alloc (.cells #[.string ⟨#[]⟩, .string ⟨#[]⟩, .int .i64 0, .slice none 0 0] 37))
    have R1 := hide (Blk.new (w.alloc (.cells #[.string ⟨#[]⟩, .string ⟨#[]⟩, .int .i64 a, .slice (some ⟨bb, off, none⟩) 2 cap] 37)) #[.string ⟨#[]⟩, .string ⟨#[]⟩, .int .i64 0, .slice none 0 0] 37 (w.heap.size + 1) (by simp))
    have HRS := hide (show w.heap.size < w.heap.size + 1 by omega)
    have HAT := hide hat
    have HKV := hide (And.intro hkvo (And.intro hkvn (And.intro hgn hgo)))
    clear hB hat hkvo hkvn hkb hgn hgo HLE hle HDT
    go_enter Tryd.func49, Tryd.ntmps49
    go_wp2_with fail
    generalize (w.alloc (.cells #[.string ⟨#[]⟩, .string ⟨#[]⟩, .int .i64 a, .slice (some ⟨bb, off, none⟩) 2 cap] 37)).alloc (.cells #[.string ⟨#[]⟩, .string ⟨#[]⟩, .int .i64 0, .slice none 0 0] 37) = w1 at *
    generalize w.heap.size + 1 = R at *
    refine (unhide HLF w1).mono ?_
    rintro e w2 ⟨rfl, hb2'⟩
    have B2 := hide ((unhide B1).trans (hb2'.mono (unhide B1).size))
    have X2 := hide ((unhide X1).below hb2')
    have R2 := hide ((unhide R1).below hb2')
    clear hb2' B1 X1 R1 HLF
    have x2 := (unhide X2).cell 2 rfl
    go_wp2_with fail
    refine (unhide HBT w2).mono ?_
    rintro e w9 ⟨rfl, hw9⟩
    subst w9
    have x3 := (unhide X2).cell 3 rfl
    have t0 := ((unhide B2).cell (p := ⟨bb, off + kb * 4, none⟩) hbb).trans d0
    have t1 := ((unhide B2).cell (p := ⟨bb, off + kb * 4 + 1, none⟩) hbb).trans d1
    have t2 := ((unhide B2).cell (p := ⟨bb, off + kb * 4 + 2, none⟩) hbb).trans d2
    have t3 := ((unhide B2).cell (p := ⟨bb, off + kb * 4 + 3, none⟩) hbb).trans d3
    have m0 : (0 : Int) ≤ (kb : Int) := by omega
    have m1 : (kb : Int) < 2 := by omega
    have n0 : (0 : Int) ≤ (no : Int) := by omega
    have n1 : (no : Int) < 2 := by omega
    go_wp2_with fail
    have BB := (Below.refl w2.heap.size w2).alloc (Nat.le_refl _) (.cells #[.string tn.toBr.key, .string tn.toBr.val, .int .i64 tn.toBr.at_, .slice kan tn.toBr.kids.length kcn] 37)
    have B3 := hide ((unhide B2).trans (BB.mono (unhide B2).size))
    have X3 := hide ((unhide X2).below BB)
    have R3 := hide ((unhide R2).below BB)
    have Q3 := hide (Blk.new w2 #[.string tn.toBr.key, .string tn.toBr.val, .int .i64 tn.toBr.at_, .slice kan tn.toBr.kids.length kcn] 37 w2.heap.size rfl)
    clear BB B2 X2 R2 x2 x3 t0 t1 t2 t3
    generalize w2.alloc (.cells #[.string tn.toBr.key, .string tn.toBr.val, .int .i64 tn.toBr.at_, .slice kan tn.toBr.kids.length kcn] 37) = w3 at *
    refine (unhide HLX w3).mono ?_
    rintro e w4 ⟨rfl, hb4⟩
    have B4 := hide ((unhide B3).trans (hb4.mono (unhide B3).size))
    have X4 := hide ((unhide X3).below hb4)
    have R4 := hide ((unhide R3).below hb4)
    have Q4 := hide ((unhide Q3).below hb4)
    clear hb4 B3 X3 R3 Q3 HLX
    have x2 := (unhide X4).cell 2 rfl
    have x3 := (unhide X4).cell 3 rfl
    have q0 := (unhide Q4).cell 0 rfl
    cases tn with
    | leaf k' v' =>
      have hkk : k' = key := unhide HLK
      rw [show decide ((Tr.leaf k' v').toBr.kids.length = 0) = true from rfl]
      have hbk := list_eq hkk
      have q0' : w4.cell? ⟨w2.heap.size, 0, none⟩ = some (.string k') := q0
      have y0 := ((unhide B4).cell (p := ⟨bb, off + no * 4, none⟩) hbb).trans s0
      have y1 := ((unhide B4).cell (p := ⟨bb, off + no * 4 + 1, none⟩) hbb).trans s1
      have y2 := ((unhide B4).cell (p := ⟨bb, off + no * 4 + 2, none⟩) hbb).trans s2
      have y3 := ((unhide B4).cell (p := ⟨bb, off + no * 4 + 3, none⟩) hbb).trans s3
      have HGR2 : Hid (∀ sa n cap w', Brs (fun x => x < B0 ∨ w.heap.size ≤ x) w' (.slice sa n cap) tq.toBr.kids → Below w.heap.size w w' → DrR B0 (brOf (some (repl kb a hv l r tq (dropT h (.leaf k' v'))))) w (.returned (.agg #[.string tq.toBr.key, .string tq.toBr.val, .int .i64 tq.toBr.at_, .slice sa n cap])) w') := HGR
      clear HGR hkk q0 HLK IH2 s0 s1 s2 s3 d0 d1 d2 d3 KN hrn okn
      have r0 := (unhide R4).cell 0 rfl
      have r1 := (unhide R4).cell 1 rfl
      have r2 := (unhide R4).cell 2 rfl
      have r3 := (unhide R4).cell 3 rfl
      have f0 := (unhide R4).fro 0
      have f1 := (unhide R4).fro 1
      have f2 := (unhide R4).fro 2
      have f3 := (unhide R4).fro 3
      have hZ := set4_blk (unhide R4) (.string tq.toBr.key) (.string tq.toBr.val) (.int .i64 tq.toBr.at_) (.slice kao tq.toBr.kids.length kco)
      have z0 := hZ.cell 0 rfl
      have z1 := hZ.cell 1 rfl
      have z2 := hZ.cell 2 rfl
      have z3 := hZ.cell 3 rfl
      have HT4 := hide (set4_touch w4 R (.string tq.toBr.key) (.string tq.toBr.val) (.int .i64 tq.toBr.at_) (.slice kao tq.toBr.kids.length kco))
      have HBF := hide ((unhide B4).trans ((unhide HT4).below (unhide B4).size (fun q hq e => by have := (unhide HRS); omega)))
      unfold set4 at z0 z1 z2 z3
      clear hZ
      go_wp2_with fail
      refine bodyPost_ret (v := .agg #[.string tq.toBr.key, .string tq.toBr.val, .int .i64 tq.toBr.at_, .slice kao tq.toBr.kids.length kco]) (by simp [results, Tryd.results49, go_sem, z0, z1, z2, z3]) rfl ?_
      exact unhide HGR2 _ _ _ _ (((unhide KO).mono (fun x hx => .inl hx)).blw (unhide HBF)) (unhide HBF)
    | fork a' hv' l' r' =>
      rw [show decide ((Tr.fork a' hv' l' r').toBr.kids.length = 0) = false from rfl]
      obtain ⟨t', ht'⟩ := drop_some h a' hv' l' r'
      have HGR3 : Hid (∀ sa n cap w', Brs (fun x => x < B0 ∨ w.heap.size ≤ x) w' (.slice sa n cap) (repl kb a hv l r tq (some t')).toBr.kids → Below w.heap.size w w' → DrR B0 (brOf (some (repl kb a hv l r tq (dropT h (.fork a' hv' l' r'))))) w (.returned (.agg #[.string (repl kb a hv l r tq (some t')).toBr.key, .string (repl kb a hv l r tq (some t')).toBr.val, .int .i64 (repl kb a hv l r tq (some t')).toBr.at_, .slice sa n cap])) w') := hide (by
        have q := unhide HGR
        rw [ht'] at q ⊢
        exact q)
      rw [ht'] at IH2
      clear HGR
      obtain ⟨ka0, kc0, hk0, _, _⟩ := ((unhide HAT).kids 0 (by simp)).shape
      obtain ⟨ka1, kc1, hk1, _, _⟩ := ((unhide HAT).kids 1 (by simp)).shape
      have BB := (Below.refl w4.heap.size w4).alloc (Nat.le_refl _) (.cells #[] 37)
      have B5 := hide ((unhide B4).trans (BB.mono (unhide B4).size))
      have X5 := hide ((unhide X4).below BB)
      have R5 := hide ((unhide R4).below BB)
      have O5 : Hid ((w4.alloc (.cells #[] 37)).ownsRow w4.heap.size 37 4 (.slice (some ⟨w4.heap.size, 0, none⟩) 0 0) 0 []) := hide (World.ownsRow_made w4 #[] 0 (Nat.le_refl _) (by unfold maxLen; omega) rfl)
      have HRW := hide (row2_rw (cap := cap) (unhide HAT) (unhide B5))
      have H1C : Hid (∀ u ∈ row2 l.toBr r.toBr (kvf 0) (kvf 1), u.oneCell' = true) := hide (by rw [hk0, hk1]; exact row2_one)
      have x35 := (unhide X5).cell 3 rfl
      have hE5 : (w4.alloc (.cells #[] 37)).heap.size = w4.heap.size + 1 := by simp
      obtain ⟨i0, hi, hz0, hz1, hz2⟩ := info_parts infoBr
      have HOT : Hid (TrOK t') := hide (by have q := dropT_ok h (.fork a' hv' l' r') okn; rw [ht'] at q; exact q)
      have hw4 := (unhide B4).size
      have hX4' : w.heap.size < w4.heap.size := (unhide X4).1
      have hR4' : R < w4.heap.size := (unhide R4).1
      clear BB X4 R4 B4 Q4 x2 x3 q0 ht' hk0 hk1
      go_upto_region 8 with (at_builtin; refine wpList_append_row _ rfl _ _ _ rfl w4.heap.size 37 i0 _ 4 64 Tryd.underlying35 hi hz0 hz1 hz2 rfl (by omega) _ 0 [] rfl (unhide O5) _ 2 (row2 l.toBr r.toBr (kvf 0) (kvf 1)) rfl (unhide HRW) rfl (unhide H1C) (by unfold maxLen; omega) (by omega) (by omega) ?_; intro a6 c6 w6 hown6 hgrow6 hat6; have R6' := hide (And.intro hown6 (And.intro hgrow6 hat6)); clear hown6 hgrow6 hat6)
      obtain ⟨hown6, hgrow6, hat6⟩ := unhide R6'
      obtain ⟨g6, c6', he6, hg6, hg6'⟩ := World.ownsRow.form hown6 (by omega)
      cases he6
      rw [List.nil_append] at hown6
      have B6 := hide (grown6 (unhide B5) hgrow6 hw4)
      have T6 : Touch (fun q => q = w4.heap.size) _ w6 := grownT hgrow6
      have X6 := hide ((unhide X5).kept T6 (fun e => by have e' : w.heap.size = w4.heap.size := e; omega))
      have R6 := hide ((unhide R5).kept T6 (fun e => by have e' : R = w4.heap.size := e; omega))
      have O6 := hide hown6
      have x36 := (unhide X6).cell 3 rfl
      have t0 := ((unhide B6).cell (p := ⟨bb, off + kb * 4, none⟩) hbb).trans d0
      have t1 := ((unhide B6).cell (p := ⟨bb, off + kb * 4 + 1, none⟩) hbb).trans d1
      have t2 := ((unhide B6).cell (p := ⟨bb, off + kb * 4 + 2, none⟩) hbb).trans d2
      have t3 := ((unhide B6).cell (p := ⟨bb, off + kb * 4 + 3, none⟩) hbb).trans d3
      clear hown6 hgrow6 hat6 T6 R6' X5 R5 B5 O5 HRW H1C x35
      have HIH := hide (unhide IH2 B0 _ w6 (Nat.le_trans hB0 (unhide B6).size) ((unhide KN).blw (unhide B6)))
      go_wp2_with fail
      refine (unhide HIH).mono ?_
      rintro e w7 ⟨s7, n7, c7, rfl, hBr7, hb7⟩
      have B7 := hide ((unhide B6).trans (hb7.mono (unhide B6).size))
      have X7 := hide ((unhide X6).below hb7)
      have R7 := hide ((unhide R6).below hb7)
      have O7 := own_kept (T := fun _ => False) (unhide O6) (Touch.ofBelow hb7) (fun _ _ h => h)
      have HBr := hide hBr7
      obtain ⟨e0, he0⟩ : ∃ v, (row2 l.toBr r.toBr (kvf 0) (kvf 1))[kb * 4]? = some v := ⟨_, List.getElem?_eq_getElem (by simp [row2]; omega)⟩
      obtain ⟨e1, he1⟩ : ∃ v, (row2 l.toBr r.toBr (kvf 0) (kvf 1))[kb * 4 + 1]? = some v := ⟨_, List.getElem?_eq_getElem (by simp [row2]; omega)⟩
      obtain ⟨e2, he2⟩ : ∃ v, (row2 l.toBr r.toBr (kvf 0) (kvf 1))[kb * 4 + 2]? = some v := ⟨_, List.getElem?_eq_getElem (by simp [row2]; omega)⟩
      obtain ⟨e3, he3⟩ : ∃ v, (row2 l.toBr r.toBr (kvf 0) (kvf 1))[kb * 4 + 3]? = some v := ⟨_, List.getElem?_eq_getElem (by simp [row2]; omega)⟩
      have g0 := (O7.cellAt (kb * 4) (by omega)).trans he0
      have g1 := (O7.cellAt (kb * 4 + 1) (by omega)).trans he1
      have g2 := (O7.cellAt (kb * 4 + 2) (by omega)).trans he2
      have g3 := (O7.cellAt (kb * 4 + 3) (by omega)).trans he3
      have i0' := O7.frozenAt (kb * 4)
      have i1' := O7.frozenAt (kb * 4 + 1)
      have i2' := O7.frozenAt (kb * 4 + 2)
      have i3' := O7.frozenAt (kb * 4 + 3)
      have HO7 := hide O7
      have hz67 := hb7.size
      clear O7 hb7 hBr7 X6 R6 B6 O6 x36 t0 t1 t2 t3 he0 he1 he2 he3 HIH
      go_upto_region 9 with fail
      have O8 := ((((unhide HO7).stored (kb * 4) (.string (brOf (some t')).key)).1.stored (kb * 4 + 1) (.string (brOf (some t')).val)).1.stored (kb * 4 + 2) (.int .i64 (brOf (some t')).at_)).1.stored (kb * 4 + 3) (.slice s7 n7 c7) |>.1
      have T8 : Touch (fun q => q = g6) w7 ((((w7.setCell ⟨g6, kb * 4, none⟩ (.string (brOf (some t')).key)).setCell ⟨g6, kb * 4 + 1, none⟩ (.string (brOf (some t')).val)).setCell ⟨g6, kb * 4 + 2, none⟩ (.int .i64 (brOf (some t')).at_)).setCell ⟨g6, kb * 4 + 3, none⟩ (.slice s7 n7 c7)) :=
        ((((Touch.refl (fun q => q = g6) w7).setCell ⟨g6, kb * 4, none⟩ _ (fun _ => rfl)).setCell ⟨g6, kb * 4 + 1, none⟩ _ (fun _ => rfl)).setCell ⟨g6, kb * 4 + 2, none⟩ _ (fun _ => rfl)).setCell ⟨g6, kb * 4 + 3, none⟩ _ (fun _ => rfl)
      have X8 := hide ((unhide X7).kept T8 (fun e => by have e' : w.heap.size = g6 := e; omega))
      have R8 := hide ((unhide R7).kept T8 (fun e => by have e' : R = g6 := e; omega))
      have B8 := hide ((unhide B7).trans (T8.below (unhide B7).size (fun q hq e => by have e' : q = g6 := e; omega)))
      have HBr8 := hide ((unhide HBr).touch T8 (fun q hq e => by have e' : q = g6 := e; omega))
      have HO8 := hide O8
      clear O8 T8 HO7 HBr X7 R7 B7 g0 g1 g2 g3 i0' i1' i2' i3'
      generalize (((w7.setCell ⟨g6, kb * 4, none⟩ (.string (brOf (some t')).key)).setCell ⟨g6, kb * 4 + 1, none⟩ (.string (brOf (some t')).val)).setCell ⟨g6, kb * 4 + 2, none⟩ (.int .i64 (brOf (some t')).at_)).setCell ⟨g6, kb * 4 + 3, none⟩ (.slice s7 n7 c7) = w8 at *
      have x28 := (unhide X8).cell 2 rfl
      have r0 := (unhide R8).cell 0 rfl
      have r1 := (unhide R8).cell 1 rfl
      have r2' := (unhide R8).cell 2 rfl
      have r3' := (unhide R8).cell 3 rfl
      have f0 := (unhide R8).fro 0
      have f1 := (unhide R8).fro 1
      have f2 := (unhide R8).fro 2
      have f3 := (unhide R8).fro 3
      have hZ := set4_blk (unhide R8) (.string ⟨#[]⟩) (.string ⟨#[]⟩) (.int .i64 a) (.slice (some ⟨g6, 0, none⟩) 2 c6)
      have z0 := hZ.cell 0 rfl
      have z1 := hZ.cell 1 rfl
      have z2 := hZ.cell 2 rfl
      have z3 := hZ.cell 3 rfl
      have HT4 := hide (set4_touch w8 R (.string ⟨#[]⟩) (.string ⟨#[]⟩) (.int .i64 a) (.slice (some ⟨g6, 0, none⟩) 2 c6))
      have HBF := hide ((unhide B8).trans ((unhide HT4).below (unhide B8).size (fun q hq e => by have := (unhide HRS); omega)))
      unfold set4 at z0 z1 z2 z3
      clear hZ
      go_wp2_with fail
      refine bodyPost_ret (v := .agg #[.string ⟨#[]⟩, .string ⟨#[]⟩, .int .i64 a, .slice (some ⟨g6, 0, none⟩) 2 c6]) (by simp [results, Tryd.results49, go_sem, z0, z1, z2, z3]) rfl ?_
      have hrs := unhide HRS
      have O9 := own_kept (unhide HO8) (unhide HT4) (fun q hq e => by
        have e1 : g6 = q := by simpa [Value.ownBlock] using hq
        have e2 : q = R := e
        omega)
      have K9 := ((unhide HBr8).touch (unhide HT4) (fun q hq e => by have e2 : q = R := e; omega)).mono (T := fun x => x < B0 ∨ w.heap.size ≤ x) (fun x hx => by omega)
      have zt := toBr_small (unhide HOT)
      have zl := toBr_small okl
      have zr := toBr_small okr
      have L0 := (((unhide HAT).kids 0 (by simp)).mono (T := fun x => x < B0 ∨ w.heap.size ≤ x) (fun x hx => .inl hx)).blw (unhide HBF)
      have L1 := (((unhide HAT).kids 1 (by simp)).mono (T := fun x => x < B0 ∨ w.heap.size ≤ x) (fun x hx => .inl hx)).blw (unhide HBF)
      rcases (show kb = 0 ∨ kb = 1 by omega) with hk | hk
      · subst hk
        exact unhide HGR3 (some ⟨g6, 0, none⟩) 2 c6 _ (brs_two (b0 := t'.toBr) (b1 := r.toBr) (v0 := .slice s7 n7 c7) (v1 := kvf 1) O9 zt zr K9 L1 (.inr (by omega))) (unhide HBF)
      · subst hk
        exact unhide HGR3 (some ⟨g6, 0, none⟩) 2 c6 _ (brs_two (b0 := l.toBr) (b1 := t'.toBr) (v0 := kvf 0) (v1 := .slice s7 n7 c7) O9 zl zt L0 K9 (.inr (by omega))) (unhide HBF)
end Go.Proofs.YtcmdilmjdnbfkaaDoor.Sha
namespace Go.Proofs.YtcmdilmjdnbfkaaDoor.Sha
open Go.ChangeShapes Go.WideShapes Go.ChangeAt Go.RowKit
set_option linter.unusedVariables false
set_option linter.unusedSimpArgs false

theorem fork_cnt (a : Nat) (hv : ByteArray) (l r : Tr) : (Tr.fork a hv l r).toBr.cnt = 1 + (l.toBr.cnt + r.toBr.cnt) := by
  rw [Br.cnt_eq]
  show 1 + cntL [l.toBr, r.toBr] = _
  rw [cntL_cons, cntL_cons]
  unfold cntL
  omega
theorem drop_cnt (h : ByteArray) : ∀ (t t' : Tr), dropT h t = some t' → t'.toBr.cnt ≤ t.toBr.cnt
  | .leaf k v, t', e => by cases e
  | .fork a hv l r, t', e => by
    have h1 := drop_cnt h l
    have h2 := drop_cnt h r
    rw [fork_cnt]
    rcases bitN_01 h a with hb | hb
    · rw [drop_0 h a hv l r hb] at e
      cases hd : dropT h l with
      | none => rw [hd] at e; cases e; show r.toBr.cnt ≤ _; omega
      | some l' => rw [hd] at e; cases e; have := h1 l' hd; show (Tr.fork a hv l' r).toBr.cnt ≤ _; rw [fork_cnt]; omega
    · rw [drop_1 h a hv l r hb] at e
      cases hd : dropT h r with
      | none => rw [hd] at e; cases e; show l.toBr.cnt ≤ _; omega
      | some r' => rw [hd] at e; cases e; have := h2 r' hd; show (Tr.fork a hv l r').toBr.cnt ≤ _; rw [fork_cnt]; omega
theorem drop_cntL (h : ByteArray) (t : Tr) : cntL (brOf (dropT h t)).kids ≤ cntL t.toBr.kids := by
  cases hd : dropT h t with
  | none => show cntL [] ≤ _; unfold cntL; omega
  | some t' =>
    have q := drop_cnt h t t' hd
    rw [Br.cnt_eq, Br.cnt_eq t.toBr] at q
    show cntL t'.toBr.kids ≤ _
    omega
set_option maxRecDepth 100000 in
set_option maxHeartbeats 2000000 in
theorem specMapDrop_any (k v : ByteArray) (a : Int) (ks : List Br) (key : ByteArray) (S : Nat → Prop) (kv : Value) (w : World) (hB : Brs S w kv ks) (hk : k.size ≤ maxLen) (hv : v.size ≤ maxLen) (hky : key.size ≤ 1048576) (hcn : cntL ks ≤ 1048576) :
    Calls Tryd.prog 19 #[.agg #[.string k, .string v, .int .i64 a, kv], .string key] w fun e w' => ∃ u, e = .returned (.tuple #[u, .int .i64 (mdOut (.mk k v a ks) key).2]) ∧ BrV w.heap.size w' u (mdOut (.mk k v a ks) key).1 ∧ Below w.heap.size w w' := by
  obtain ⟨sa, cap, rfl, hcap, hcm⟩ := hB.shape
  have B0 := hide (((Below.refl w.heap.size w).alloc (Nat.le_refl _) (.cells #[.string k, .string v, .int .i64 a, .slice sa ks.length cap] 37)).alloc (by simp) (.cells #[.string ⟨#[]⟩, .string ⟨#[]⟩, .int .i64 0, .slice none 0 0] 37))
  have X0 := hide ((Blk.new w #[.string k, .string v, .int .i64 a, .slice sa ks.length cap] 37 w.heap.size rfl).alloc (.cells #[.string ⟨#[]⟩, .string ⟨#[]⟩, .int .i64 0, .slice none 0 0] 37))
  have R0 := hide (Blk.new (w.alloc (.cells #[.string k, .string v, .int .i64 a, .slice sa ks.length cap] 37)) #[.string ⟨#[]⟩, .string ⟨#[]⟩, .int .i64 0, .slice none 0 0] 37 (w.heap.size + 1) (by simp))
  have HSZ := hide (show w.heap.size ≤ w.heap.size + 1 by omega)
  have HXR := hide (show w.heap.size < w.heap.size + 1 by omega)
  have HM := hide (fun wx (hx : Below w.heap.size w wx) => specMapOK_any k v a ks S _ wx (hB.blw hx) hk hv)
  have HMB := hide (mapB_V (.mk k v a ks))
  have HKY := hide (fun wx => l02Keyb_any key wx (by unfold maxLen; omega))
  have HOK := hide (okK_iff (k := key))
  have HGT := hide (fun (h24 : key.size ≤ 24) o (h : mapV (.mk k v a ks) = some o) wx (hx : Below w.heap.size w wx) => show Calls Tryd.prog 47 #[.agg #[.string k, .string v, .int .i64 a, .slice sa ks.length cap], .string key] wx fun e w' => GetR o key wx e w' by
    obtain ⟨h1, h2⟩ := mapV_br h
    have h3 := mapV_rise h
    have hx2 := hB.blw hx
    have q := l07Get_any o h2 h3 key h24 S (.slice sa ks.length cap) wx (by rw [← h1]; exact hx2)
    rw [← h1] at q
    exact q)
  have HDP := hide (fun (h24 : key.size ≤ 24) t (h : mapV (.mk k v a ks) = some (some t)) (hl : (leadL (kh key) t).1 = key) wx (hx : Below w.heap.size w wx) => show Calls Tryd.prog 49 #[.agg #[.string k, .string v, .int .i64 a, .slice sa ks.length cap], .string (kh key), .string key] wx fun e w' => DrR w.heap.size (brOf (dropT (kh key) t)) wx e w' by
    obtain ⟨h1, h2⟩ := mapV_br h
    have h3 := mapV_rise h
    have h1' : Br.mk k v a ks = t.toBr := h1
    have hx2 := hB.bound.blw hx
    have q := l07Drop_any (kh key) key (kh_size (by omega)) t h2 0 h3 hl w.heap.size (.slice sa ks.length cap) wx hx.size (by rw [← h1']; exact hx2)
    rw [← h1'] at q
    exact q)
  have HCD := hide (fun t (h : mapV (.mk k v a ks) = some (some t)) => show cntL (brOf (dropT (kh key) t)).kids ≤ 1048576 by
    have h1 : Br.mk k v a ks = t.toBr := (mapV_br h).1
    have h2 := drop_cntL (kh key) t
    rw [← h1] at h2
    exact Nat.le_trans h2 hcn)
  have HHS := hide (fun (h24 : key.size ≤ 24) wx => l07Hash_any key wx (by omega))
  by_cases h1 : 65536 < key.size
  · have HO : Hid (mdOut (.mk k v a ks) key = (brOf none, 2)) := hide (by
      have e : txC key.size 1 24 = 2 := by unfold txC; rw [if_pos h1]
      unfold mdOut; rw [e, if_neg (by omega)])
    clear hB hk hv HGT HM HDP HCD HHS
    go_enter Tryd.func19, Tryd.ntmps19
    have r0 := (unhide R0).cell 0 rfl
    have r1 := (unhide R0).cell 1 rfl
    have r2 := (unhide R0).cell 2 rfl
    have r3 := (unhide R0).cell 3 rfl
    go_wp2_with fail
    refine bodyPost_ret (v := .tuple #[.agg #[.string ⟨#[]⟩, .string ⟨#[]⟩, .int .i64 0, .slice none 0 0], .int .i64 2]) (by simp [results, Tryd.results19, go_sem, r0, r1, r2, r3]) rfl ?_
    exact ⟨_, by rw [unhide HO], by rw [unhide HO]; exact brV_nil _ _, unhide B0⟩
  have HTX : Hid (txC key.size 1 24 = if okK key = true then 0 else 1) := hide (by unfold txC; rw [if_neg h1, okK_in])
  clear hB hk hv
  go_enter Tryd.func19, Tryd.ntmps19
  go_wp2_with fail
  generalize (w.alloc (.cells #[.string k, .string v, .int .i64 a, .slice sa ks.length cap] 37)).alloc (.cells #[.string ⟨#[]⟩, .string ⟨#[]⟩, .int .i64 0, .slice none 0 0] 37) = w1 at *
  generalize w.heap.size + 1 = rb at *
  refine (unhide HM w1 (unhide B0)).mono ?_
  rintro e w2 ⟨rfl, hb2⟩
  have B2 := hide ((unhide B0).trans (hb2.mono (unhide B0).size))
  have X2 := hide ((unhide X0).below hb2)
  have R2 := hide ((unhide R0).below hb2)
  clear hb2 X0 R0 B0
  have x0 := (unhide X2).cell 0 rfl
  have x1 := (unhide X2).cell 1 rfl
  have x2 := (unhide X2).cell 2 rfl
  have x3 := (unhide X2).cell 3 rfl
  rw [unhide HMB]
  cases hmv : mapV (.mk k v a ks) with
  | none =>
    have HO : Hid (mdOut (.mk k v a ks) key = (brOf none, 1)) := hide (by
      unfold mdOut
      rw [hmv, unhide HTX]
      cases okK key <;> rfl)
    clear hmv HGT HTX HM HDP HCD HHS
    rw [show (none : Option (Option Tr)).isSome = false from rfl]
    have r0 := (unhide R2).cell 0 rfl
    have r1 := (unhide R2).cell 1 rfl
    have r2 := (unhide R2).cell 2 rfl
    have r3 := (unhide R2).cell 3 rfl
    have f0 := (unhide R2).fro 0
    have f1 := (unhide R2).fro 1
    have f2 := (unhide R2).fro 2
    have f3 := (unhide R2).fro 3
    have hE := end4b (b := brOf none) (m := rb + 1) (unhide R2) (unhide B2) (BrO.nil (fun x => rb + 1 ≤ x ∧ x < _) none 0 (by unfold maxLen; omega)) (unhide HSZ) (Nat.lt_succ_self _)
    have z0 := hE.1.cell 0 rfl
    have z1 := hE.1.cell 1 rfl
    have z2 := hE.1.cell 2 rfl
    have z3 := hE.1.cell 3 rfl
    have HE := hide hE
    unfold set4 at z0 z1 z2 z3
    dsimp only [brOf, Br.key, Br.val, Br.at_] at z0 z1 z2 z3
    clear hE
    go_wp2_with fail
    refine bodyPost_ret (v := .tuple #[.agg #[.string ⟨#[]⟩, .string ⟨#[]⟩, .int .i64 0, .slice none 0 0], .int .i64 1]) (by simp [results, Tryd.results19, go_sem, z0, z1, z2, z3]) rfl ?_
    exact ⟨_, by rw [unhide HO], by rw [unhide HO]; exact (unhide HE).2.1, (unhide HE).2.2⟩
  | some o =>
    rw [show (some o).isSome = true from rfl]
    have HO : Hid (mdOut (.mk k v a ks) key = if okK key = true then mdO o key else (brOf none, 1)) := hide (by
      unfold mdOut
      rw [hmv, unhide HTX]
      cases okK key <;> rfl)
    have HG2 := hide (fun h24 => unhide HGT h24 o hmv w2 (unhide B2))
    have HMV := hide hmv
    clear hmv HGT HTX HM
    generalize okK key = ok at *
    go_wp2_with fail
    refine (unhide HKY w2).mono ?_
    rintro e w9 ⟨rfl, hw9⟩
    subst w9
    cases ok
    · rw [if_neg (by simp)] at HO
      clear HG2 HDP HCD HHS
      have r0 := (unhide R2).cell 0 rfl
      have r1 := (unhide R2).cell 1 rfl
      have r2 := (unhide R2).cell 2 rfl
      have r3 := (unhide R2).cell 3 rfl
      have f0 := (unhide R2).fro 0
      have f1 := (unhide R2).fro 1
      have f2 := (unhide R2).fro 2
      have f3 := (unhide R2).fro 3
      have hE := end4b (b := brOf none) (m := rb + 1) (unhide R2) (unhide B2) (BrO.nil (fun x => rb + 1 ≤ x ∧ x < _) none 0 (by unfold maxLen; omega)) (unhide HSZ) (Nat.lt_succ_self _)
      have z0 := hE.1.cell 0 rfl
      have z1 := hE.1.cell 1 rfl
      have z2 := hE.1.cell 2 rfl
      have z3 := hE.1.cell 3 rfl
      have HE := hide hE
      unfold set4 at z0 z1 z2 z3
      dsimp only [brOf, Br.key, Br.val, Br.at_] at z0 z1 z2 z3
      clear hE
      go_wp2_with fail
      refine bodyPost_ret (v := .tuple #[.agg #[.string ⟨#[]⟩, .string ⟨#[]⟩, .int .i64 0, .slice none 0 0], .int .i64 1]) (by simp [results, Tryd.results19, go_sem, z0, z1, z2, z3]) rfl ?_
      exact ⟨_, by rw [unhide HO], by rw [unhide HO]; exact (unhide HE).2.1, (unhide HE).2.2⟩
    rw [if_pos rfl] at HO
    have h24 := ((unhide HOK).1 rfl).2
    have HG3 := hide (unhide HG2 h24)
    have HHS2 := hide (unhide HHS h24)
    have HDP2 := hide (unhide HDP h24)
    clear HG2 HHS HDP
    go_wp2_with fail
    refine (unhide HG3).mono ?_
    rintro e w3 ⟨kk, vv, aa, ssa, nn, cc, fb, rfl, hb3, hm⟩
    have BB := (Below.refl w3.heap.size w3).alloc (Nat.le_refl _) (.cells #[.string kk, .string vv, .int .i64 aa, .slice ssa nn cc] 37)
    have hb3b := hb3.trans (BB.mono hb3.size)
    have B3 := hide ((unhide B2).trans (hb3b.mono (unhide B2).size))
    have X3 := hide ((unhide X2).below hb3b)
    have R3 := hide ((unhide R2).below hb3b)
    clear hb3 hb3b BB HG3 B2 X2 R2 x0 x1 x2 x3
    cases fb
    · have HO5 : Hid (mdOut (.mk k v a ks) key = (brOf none, 5)) := hide (by
        rw [unhide HO]
        cases o with
        | none => rfl
        | some t =>
          obtain ⟨_, h2⟩ := hm
          unfold mdO
          dsimp only
          rw [if_neg (of_decide_eq_false h2.symm)])
      clear hm HO HDP2 HCD HHS2
      have r0 := (unhide R3).cell 0 rfl
      have r1 := (unhide R3).cell 1 rfl
      have r2 := (unhide R3).cell 2 rfl
      have r3 := (unhide R3).cell 3 rfl
      have f0 := (unhide R3).fro 0
      have f1 := (unhide R3).fro 1
      have f2 := (unhide R3).fro 2
      have f3 := (unhide R3).fro 3
      have hE := end4b (b := brOf none) (m := rb + 1) (unhide R3) (unhide B3) (BrO.nil (fun x => rb + 1 ≤ x ∧ x < _) none 0 (by unfold maxLen; omega)) (unhide HSZ) (Nat.lt_succ_self _)
      have z0 := hE.1.cell 0 rfl
      have z1 := hE.1.cell 1 rfl
      have z2 := hE.1.cell 2 rfl
      have z3 := hE.1.cell 3 rfl
      have HE := hide hE
      unfold set4 at z0 z1 z2 z3
      dsimp only [brOf, Br.key, Br.val, Br.at_] at z0 z1 z2 z3
      clear hE
      go_wp2_with fail
      refine bodyPost_ret (v := .tuple #[.agg #[.string ⟨#[]⟩, .string ⟨#[]⟩, .int .i64 0, .slice none 0 0], .int .i64 5]) (by simp [results, Tryd.results19, go_sem, z0, z1, z2, z3]) rfl ?_
      exact ⟨_, by rw [unhide HO5], by rw [unhide HO5]; exact (unhide HE).2.1, (unhide HE).2.2⟩
    · cases o with
      | none => cases hm
      | some t =>
        obtain ⟨hvv, h2⟩ := hm
        clear hvv
        have hl := of_decide_eq_true h2.symm
        have HO0 : Hid (mdOut (.mk k v a ks) key = (brOf (dropT (kh key) t), 0)) := hide (by
          rw [unhide HO]
          unfold mdO
          dsimp only
          rw [if_pos hl])
        have HD3 := hide (unhide HDP2 t (unhide HMV) hl)
        have HC3 := hide (unhide HCD t (unhide HMV))
        clear hl h2 HO HDP2 HCD HMV
        generalize brOf (dropT (kh key) t) = D at *
        generalize kh key = h at *
        go_upto_region 8 with fail
        generalize w3.alloc (.cells #[.string kk, .string vv, .int .i64 aa, .slice ssa nn cc] 37) = w3b at *
        have x0 := (unhide X3).cell 0 rfl
        have x1 := (unhide X3).cell 1 rfl
        have x2 := (unhide X3).cell 2 rfl
        have x3 := (unhide X3).cell 3 rfl
        have hX3 := (unhide X3).1
        have hR3 := (unhide R3).1
        have HBX := hide (unhide B3).size
        have HSX := hide (fun wx (hx : Touch (fun q => rb ≤ q) w3b wx) => show ((fun wx => wx.cell? ⟨w.heap.size, 0, none⟩ = some (.string k) ∧ wx.cell? ⟨w.heap.size, 1, none⟩ = some (.string v) ∧ wx.cell? ⟨w.heap.size, 2, none⟩ = some (.int .i64 a) ∧ wx.cell? ⟨w.heap.size, 3, none⟩ = some (.slice sa ks.length cap)) wx) from by
          have X := (unhide X3).kept hx (fun e => by have e' : rb ≤ w.heap.size := e; have := unhide HXR; omega)
          exact ⟨X.cell 0 rfl, X.cell 1 rfl, X.cell 2 rfl, X.cell 3 rfl⟩)
        have HB4 := hide (below_drewN (unhide B3) 1)
        go_wp2_with fail
        go_region_held3 (fun wx => wx.cell? ⟨w.heap.size, 0, none⟩ = some (.string k) ∧ wx.cell? ⟨w.heap.size, 1, none⟩ = some (.string v) ∧ wx.cell? ⟨w.heap.size, 2, none⟩ = some (.int .i64 a) ∧ wx.cell? ⟨w.heap.size, 3, none⟩ = some (.slice sa ks.length cap))
          (first | exact unhide HSX _ T8 | exact unhide HSX _ T7 | exact unhide HSX _ T6 | exact unhide HSX _ T5 | go_keep)
          (first
            | (go_at_call 48; refine (l07Own_any hBr6 D.key D.val D.at_ w6 (unhide HC3) (Below.refl _ _)).mono ?_; rw [br_eta]; rintro e w7 ⟨s7, n7, c7, rfl, hO7, hb7⟩; have T7 : Touch (fun q => rb ≤ q) w3b w7 := T6.trans (T' := fun q => rb ≤ q) (Touch.ofBelow hb7) (fun _ _ h => h); have B7 : Below w.heap.size w w7 := B6.trans (hb7.mono B6.size); have R7 := ((unhide R3).kept (T := fun _ => False) (Touch.ofBelow (((below_drewN (Below.refl _ w3b) 1).trans hb5).trans (hb6.mono hz5))) (fun h => h)).below hb7; have r0 := R7.cell 0 rfl; have r1 := R7.cell 1 rfl; have r2 := R7.cell 2 rfl; have r3 := R7.cell 3 rfl; have f0 := R7.fro 0; have f1 := R7.fro 1; have f2 := R7.fro 2; have f3 := R7.fro 3; have T8 := T7.trans (set4_touch w7 rb (.string D.key) (.string D.val) (.int .i64 D.at_) (.slice s7 n7 c7)) (fun q _ e => by have e' : q = rb := e; omega))
            | (go_at_call 49; refine (unhide HD3 w5 B5).mono ?_; rintro e w6 ⟨s6, n6, c6, rfl, hBr6, hb6⟩; have T6 : Touch (fun q => rb ≤ q) w3b w6 := T5.trans (T' := fun q => rb ≤ q) (Touch.ofBelow hb6) (fun _ _ h => h); have B6 : Below w.heap.size w w6 := B5.trans (hb6.mono B5.size))
            | (go_at_call 50; refine (unhide HHS2 w3b.drew).mono ?_; rintro e w5 ⟨rfl, hb5⟩; have T5 : Touch (fun q => rb ≤ q) w3b w5 := Touch.ofBelow ((below_drewN (Below.refl _ w3b) 1).trans hb5); have B5 : Below w.heap.size w w5 := (unhide HB4).trans (hb5.mono (unhide HB4).size); have hz5 : w3b.heap.size ≤ w5.heap.size := hb5.size))
        all_goals
          have hE := end4b R7 B7 hO7 (unhide HSZ) (by have := hb6.size; omega)
          have z0 := hE.1.cell 0 rfl
          have z1 := hE.1.cell 1 rfl
          have z2 := hE.1.cell 2 rfl
          have z3 := hE.1.cell 3 rfl
          have HE := hide hE
          unfold set4 at z0 z1 z2 z3
          clear hE r0 r1 r2 r3 f0 f1 f2 f3 R7 B7 B6 B5 T5 T6 T7 T8 hO7 hBr6 hb5 hb6 hb7 x0 x1 x2 x3
          go_wp2_with fail
          refine bodyPost_ret (v := .tuple #[.agg #[.string D.key, .string D.val, .int .i64 D.at_, .slice s7 n7 c7], .int .i64 0]) (by simp [results, Tryd.results19, go_sem, z0, z1, z2, z3]) rfl ?_
          exact ⟨_, by rw [unhide HO0], by rw [unhide HO0]; exact (unhide HE).2.1, (unhide HE).2.2⟩
end Go.Proofs.YtcmdilmjdnbfkaaDoor.Sha
