/- The specification's l07Prove; spec.ProveKey. (By py/brz.py.) -/
import Derived.Test.YtdkljgkpogcjeaaDoorBrW
import Derived.Test.YtdkljgkpogcjeaaDoorBrJ
import Derived.Test.YtdkljgkpogcjeaaDoorBrY
namespace Go.Proofs.YtdkljgkpogcjeaaDoor.Sha
open Go.ChangeShapes Go.WideShapes Go.ChangeAt Go.RowKit
set_option linter.unusedVariables false
set_option linter.unusedSimpArgs false

/-- What l07Prove answers. -/
def ProveR (o : Option Tr) (key : ByteArray) (w : World) (e : Ending) (w' : World) : Prop := ∃ u, e = .returned u ∧ PrV w.heap.size w' u (pkFound o key) (pkKV o key) (pkSteps o key) ∧ Below w.heap.size w w'
/-- The proof that grows: its box P, the slice that it owns, from E on; the result's box R. -/
structure Gw (X R E P : Nat) (w wr : World) (sv : Value) (acc : List Pk) : Prop where
  r : Blk wr R [.bool false, .string ⟨#[]⟩, .string ⟨#[]⟩, .slice none 0 0]
  p : Blk wr P [.bool false, .string ⟨#[]⟩, .string ⟨#[]⟩, sv]
  o : OwnP E wr sv acc
  n : ∀ k, sv.ownBlock = some k → k ≠ P
  b : Below X w wr
  s0 : X < R
  s1 : R < E
  s2 : E < P
theorem Gw.below {X R E P : Nat} {w wr wx : World} {sv : Value} {acc : List Pk} (h : Gw X R E P w wr sv acc) (hb : Below wr.heap.size wr wx) : Gw X R E P w wx sv acc :=
  ⟨h.r.below hb, h.p.below hb, h.o.below hb, h.n, h.b.trans (hb.mono (by have := h.r.1; have := h.s0; omega)), h.s0, h.s1, h.s2⟩
theorem own_e0 (w : World) (B : Nat) (hB : B ≤ w.heap.size) : OwnP B (w.alloc (.cells #[] 106)) (.slice (some ⟨w.heap.size, 0, none⟩) 0 0) [] :=
  World.ownsRow_made w #[] 0 hB (by unfold maxLen; omega) rfl
def set3 (w : World) (R : Nat) (a b c : Value) : World := ((w.setCell ⟨R, 0, none⟩ a).setCell ⟨R, 1, none⟩ b).setCell ⟨R, 2, none⟩ c
theorem set3_touch (w : World) (R : Nat) (a b c : Value) : Touch (fun x => x = R) w (set3 w R a b c) :=
  (((Touch.refl (fun x => x = R) w).setCell ⟨R, 0, none⟩ a (fun _ => rfl)).setCell ⟨R, 1, none⟩ b (fun _ => rfl)).setCell ⟨R, 2, none⟩ c (fun _ => rfl)
theorem Gw.fin {R E P : Nat} {w wr : World} {sv : Value} {acc : List Pk} (h : Gw w.heap.size R E P w wr sv acc) (a b c : Value) :
    Blk (set4 (set3 wr P a b c) R a b c sv) R [a, b, c, sv] ∧ OwnP w.heap.size (set4 (set3 wr P a b c) R a b c sv) sv acc ∧ Below w.heap.size w (set4 (set3 wr P a b c) R a b c sv) := by
  have ht := set3_touch wr P a b c
  have h0 := h.s0
  have h1 := h.s1
  have h2 := h.s2
  exact end4 a b c sv (h.r.kept ht (by omega)) (h.b.trans (ht.below h.b.size (fun k hk e => by omega))) (h.o.kept ht (fun k hk e => h.n k hk e)) (by omega) h1 (by omega)
theorem Gw.push {X R E P : Nat} {w w6 w7 : World} {sv : Value} {acc : List Pk} (h : Gw X R E P w w6 sv acc) (x : Pk) (o : Obj) {gg cg : Nat} (hown : w7.ownsRow E 106 2 (.slice (some ⟨gg, 0, none⟩) (acc.length + 1) cg) (acc.length + 1) (pksC acc ++ pksC [x]))
    (hgrow : (w6.alloc o).grownBy w7 sv.ownBlock) (hat : sv.ownBlock = some gg ∨ gg = w6.heap.size + 1) :
    Blk w7 P [.bool false, .string ⟨#[]⟩, .string ⟨#[]⟩, sv] ∧ Touch (fun q => sv.ownBlock = some q ∨ q = P) w6 (w7.setCell ⟨P, 3, none⟩ (.slice (some ⟨gg, 0, none⟩) (acc.length + 1) cg)) ∧ Touch (fun q => sv.ownBlock = some q) w6 w7 ∧
    Gw X R E P w (w7.setCell ⟨P, 3, none⟩ (.slice (some ⟨gg, 0, none⟩) (acc.length + 1) cg)) (.slice (some ⟨gg, 0, none⟩) (acc ++ [x]).length cg) (acc ++ [x]) := by
  have t1 : Touch (fun q => sv.ownBlock = some q) w6 w7 := ((Touch.refl (fun q => sv.ownBlock = some q) w6).alloc o).grown hgrow (fun q hq _ => hq)
  have p7 : Blk w7 P [.bool false, .string ⟨#[]⟩, .string ⟨#[]⟩, sv] := h.p.kept t1 (fun e => h.n P e rfl)
  have t2 : Touch (fun q => sv.ownBlock = some q ∨ q = P) w6 (w7.setCell ⟨P, 3, none⟩ (.slice (some ⟨gg, 0, none⟩) (acc.length + 1) cg)) :=
    (((Touch.refl (fun q => sv.ownBlock = some q ∨ q = P) w6).trans t1 (fun _ _ h => .inl h))).setCell ⟨P, 3, none⟩ _ (fun _ => .inr rfl)
  have h0 := h.s0
  have h1 := h.s1
  have h2 := h.s2
  have hP := h.p.1
  have hgP : gg ≠ P := by
    rcases hat with e | e
    · exact h.n gg e
    · omega
  have hll : (acc ++ [x]).length = acc.length + 1 := by simp
  refine ⟨p7, t2, t1, ?_⟩
  rw [hll]
  refine ⟨h.r.kept t2 (fun e => ?_), p7.set 3 _ (by simp), ?_, ?_, ?_, h0, h1, h2⟩
  · rcases e with e | e
    · have := (h.o.lt R e).1; omega
    · omega
  · have ho : OwnP E w7 (.slice (some ⟨gg, 0, none⟩) (acc.length + 1) cg) (acc ++ [x]) := OwnP.pushed hown rfl
    exact ho.kept (T := fun q => q = P) ((Touch.refl (fun q => q = P) w7).setCell ⟨P, 3, none⟩ _ (fun _ => rfl)) (fun k hk e => by
      have e2 : gg = k := by simpa [Value.ownBlock] using hk
      omega)
  · intro k hk
    have e2 : gg = k := by simpa [Value.ownBlock] using hk
    omega
  · exact h.b.trans (t2.below (by have := h.r.1; omega) (fun k hk e => by
      rcases e with e | e
      · have := (h.o.lt k e).1; omega
      · omega))
theorem Gw.setX {X R E P : Nat} {w wr : World} {sv : Value} {acc : List Pk} (h : Gw X R E P w wr sv acc) (a b c d : Value) : Gw X R E P w (set4 wr X a b c d) sv acc := by
  have ht := set4_touch wr X a b c d
  have h0 := h.s0
  have h1 := h.s1
  have h2 := h.s2
  have h3 := h.r.1
  exact ⟨h.r.kept ht (by omega), h.p.kept ht (by omega), h.o.kept ht (fun k hk e => by have := (h.o.lt k hk).1; omega), h.n, h.b.trans (ht.below (by omega) (fun k hk e => by omega)), h0, h1, h2⟩
set_option maxRecDepth 100000 in
set_option maxHeartbeats 4000000 in
theorem l07Prove_some (t : Tr) (hok : TrOK t) (hri : Rise 0 t) (key : ByteArray) (hk : key.size ≤ 24) (S : Nat → Prop) (sa : Option Addr) (cap : Nat) (w : World) (hB : Brs S w (.slice sa t.toBr.kids.length cap) t.toBr.kids) :
    Calls Tryd.prog 77 #[.agg #[.string t.toBr.key, .string t.toBr.val, .int .i64 t.toBr.at_, .slice sa t.toBr.kids.length cap], .string key] w fun e w' => ProveR (some t) key w e w' := by
  obtain ⟨i0, hi, hz0, hz1, hz2⟩ := info_parts infoPk
  obtain ⟨_, _, e0, hcap, hcm⟩ := hB.shape
  cases e0
  have HE := hide (fun wx => l07Empty_any t.toBr.key t.toBr.val t.toBr.at_ t.toBr.kids sa cap wx (by omega))
  have e9 : Br.mk t.toBr.key t.toBr.val t.toBr.at_ t.toBr.kids = brOf (some t) := by cases t <;> rfl
  rw [e9, show emptyBr (brOf (some t)) = false from not_empty hok] at HE
  clear e9
  have HKB := hide hB.bound
  have HHS := hide (fun wx => l07Hash_any key wx (by omega))
  have hks := kh_size (k := key) (by omega)
  have HGR : Hid (∀ u w', PrV w.heap.size w' u (decide ((leadL (kh key) t).1 = key)) (leadL (kh key) t) (stepsV (kh key) t) → Below w.heap.size w w' → ProveR (some t) key w (.returned u) w') := hide (fun u w' h1 h2 => ⟨u, rfl, h1, h2⟩)
  have HOK := hide hok
  have HRI := hide hri
  have X1 : Hid (Blk ((((w.alloc (.cells #[.string t.toBr.key, .string t.toBr.val, .int .i64 t.toBr.at_, .slice sa t.toBr.kids.length cap] 32)).alloc (.cells #[.bool false, .string ⟨#[]⟩, .string ⟨#[]⟩, .slice none 0 0] 51)).alloc (.cells #[] 106)).alloc (.cells #[.bool false, .string ⟨#[]⟩, .string ⟨#[]⟩, .slice (some ⟨w.heap.size + 1 + 1, 0, none⟩) 0 0] 51)) w.heap.size [.string t.toBr.key, .string t.toBr.val, .int .i64 t.toBr.at_, .slice sa t.toBr.kids.length cap]) := hide ((((Blk.new w _ _ w.heap.size rfl).alloc _).alloc _).alloc _)
  have G1 : Hid (Gw w.heap.size (w.heap.size + 1) (w.heap.size + 1 + 1) (w.heap.size + 1 + 1 + 1) w ((((w.alloc (.cells #[.string t.toBr.key, .string t.toBr.val, .int .i64 t.toBr.at_, .slice sa t.toBr.kids.length cap] 32)).alloc (.cells #[.bool false, .string ⟨#[]⟩, .string ⟨#[]⟩, .slice none 0 0] 51)).alloc (.cells #[] 106)).alloc (.cells #[.bool false, .string ⟨#[]⟩, .string ⟨#[]⟩, .slice (some ⟨w.heap.size + 1 + 1, 0, none⟩) 0 0] 51)) (.slice (some ⟨w.heap.size + 1 + 1, 0, none⟩) 0 0) []) := hide (by
    refine ⟨?_, ?_, ?_, ?_, ?_, by omega, by omega, by omega⟩
    · exact ((Blk.new _ _ _ (w.heap.size + 1) (by simp)).alloc _).alloc _
    · exact Blk.new _ _ _ (w.heap.size + 1 + 1 + 1) (by simp)
    · have h := own_e0 ((w.alloc (.cells #[.string t.toBr.key, .string t.toBr.val, .int .i64 t.toBr.at_, .slice sa t.toBr.kids.length cap] 32)).alloc (.cells #[.bool false, .string ⟨#[]⟩, .string ⟨#[]⟩, .slice none 0 0] 51)) (w.heap.size + 1 + 1) (by simp)
      have h2 := h.below ((Below.refl _ _).alloc (Nat.le_refl _) (.cells #[.bool false, .string ⟨#[]⟩, .string ⟨#[]⟩, .slice (some ⟨w.heap.size + 1 + 1, 0, none⟩) 0 0] 51))
      simpa using h2
    · intro k hk
      have e : w.heap.size + 1 + 1 = k := by simpa [Value.ownBlock] using hk
      omega
    · exact ((((Below.refl _ _).alloc (Nat.le_refl _) _).alloc (by simp) _).alloc (by simp; omega) _).alloc (by simp; omega) _)
  clear hB hok hri
  go_enter Tryd.func77, Tryd.ntmps77
  go_wp2_with fail
  generalize (((w.alloc (.cells #[.string t.toBr.key, .string t.toBr.val, .int .i64 t.toBr.at_, .slice sa t.toBr.kids.length cap] 32)).alloc (.cells #[.bool false, .string ⟨#[]⟩, .string ⟨#[]⟩, .slice none 0 0] 51)).alloc (.cells #[] 106)).alloc (.cells #[.bool false, .string ⟨#[]⟩, .string ⟨#[]⟩, .slice (some ⟨w.heap.size + 1 + 1, 0, none⟩) 0 0] 51) = w1 at *
  generalize w.heap.size + 1 + 1 + 1 = P at *
  generalize w.heap.size + 1 + 1 = E at *
  generalize w.heap.size + 1 = R at *
  refine (unhide HE w1).mono ?_
  rintro e w2 ⟨rfl, hb2⟩
  have X2 := hide ((unhide X1).below hb2)
  have G2 := hide ((unhide G1).below hb2)
  clear hb2 X1 G1 HE
  go_wp2_with fail
  refine (unhide HHS w2).mono ?_
  rintro e w3 ⟨rfl, hb3⟩
  have X3 := hide ((unhide X2).below hb3)
  have G3 := hide ((unhide G2).below hb3)
  clear hb3 X2 G2 HHS
  generalize kh key = h at *
  go_wp2_with fail
  go_loopw [] (fun wr => ∃ (m : Nat) (t' : Tr) (ka : Option Addr) (kc : Nat) (ga : Option Addr) (gc : Nat) (acc : List Pk), Blk wr w.heap.size [.string t'.toBr.key, .string t'.toBr.val, .int .i64 t'.toBr.at_, .slice ka t'.toBr.kids.length kc] ∧ Brs (fun x => x < w.heap.size) w (.slice ka t'.toBr.kids.length kc) t'.toBr.kids ∧ Rise m t' ∧ TrOK t' ∧ leadL h t' = leadL h t ∧ acc ++ stepsV h t' = stepsV h t ∧ acc.length ≤ m ∧ Gw w.heap.size R E P w wr (.slice ga acc.length gc) acc) (fun wr => 256 - atCell2 w.heap.size wr)
  case atStart => exact ⟨0, t, sa, cap, some ⟨E, 0, none⟩, 0, [], unhide X3, unhide HKB, unhide HRI, unhide HOK, rfl, rfl, Nat.le_refl _, unhide G3⟩
  case round =>
    clear HKB HRI HOK X3 G3
    obtain ⟨m, t', ka, kc, ga, gc, acc, hX, hKB, hRI, hOK, hL, hST, ham, hG⟩ := hrel
    obtain ⟨_, _, _, _, hkm⟩ := hKB.shape
    have HLF := hide (fun wx => l07Leaf_any t'.toBr.key t'.toBr.val t'.toBr.at_ ka t'.toBr.kids.length kc wx (by unfold maxLen at hkm ⊢; have := hKB.shape; omega))
    have HX := hide hX
    have x0 := hX.cell 0 rfl
    have x1 := hX.cell 1 rfl
    have x2 := hX.cell 2 rfl
    have x3 := hX.cell 3 rfl
    have HG := hide hG
    have HL := hide hL
    have HST := hide hST
    have HA := hide (atCell2_is (X := w.heap.size) (w := wr) (a := t'.at_) (by rw [x2, toBr_at]))
    have hXR : w.heap.size < R := hG.s0
    have hRE : R < E := hG.s1
    have hEP : E < P := hG.s2
    clear hX hG hL hST
    cases t' with
    | leaf k v =>
      rw [show decide ((Tr.leaf k v).toBr.kids.length = 0) = true from rfl] at HLF
      dsimp only [Tr.toBr, Br.key, Br.val, Br.at_, Br.kids, List.length_nil] at HLF x0 x1 x2 x3 HX hKB
      have HKV : Hid ((k, v) = leadL h t ∧ acc = stepsV h t) := hide ⟨unhide HL, by have e : acc ++ [] = stepsV h t := unhide HST; rwa [List.append_nil] at e⟩
      go_wp2_with fail
      refine (unhide HLF wr).mono ?_
      rintro e w4 ⟨rfl, hb4⟩
      have X4 := hide ((unhide HX).below hb4)
      have G4 := hide ((unhide HG).below hb4)
      clear hb4 x0 x1 x2 x3 HX HG
      have x0 := (unhide X4).cell 0 rfl
      have x1 := (unhide X4).cell 1 rfl
      have r0 := (unhide G4).r.cell 0 rfl
      have r1 := (unhide G4).r.cell 1 rfl
      have r2 := (unhide G4).r.cell 2 rfl
      have r3 := (unhide G4).r.cell 3 rfl
      have f0 := (unhide G4).r.fro 0
      have f1 := (unhide G4).r.fro 1
      have f2 := (unhide G4).r.fro 2
      have f3 := (unhide G4).r.fro 3
      have p0 := (unhide G4).p.cell 0 rfl
      have p1 := (unhide G4).p.cell 1 rfl
      have p2 := (unhide G4).p.cell 2 rfl
      have p3 := (unhide G4).p.cell 3 rfl
      have q0 := (unhide G4).p.fro 0
      have q1 := (unhide G4).p.fro 1
      have q2 := (unhide G4).p.fro 2
      have q3 := (unhide G4).p.fro 3
      by_cases hkk : k = key
      · have hbk := list_eq hkk
        have HD : Hid (decide ((leadL h t).1 = key) = true) := hide (by rw [← (unhide HKV).1]; simpa using hkk)
        have hE := (unhide G4).fin (.bool true) (.string k) (.string v)
        have z0 := hE.1.cell 0 rfl
        have z1 := hE.1.cell 1 rfl
        have z2 := hE.1.cell 2 rfl
        have z3 := hE.1.cell 3 rfl
        have HEN := hide hE
        unfold set4 set3 at z0 z1 z2 z3
        clear hkk hE
        go_wp2_with fail
        refine bodyPost_ret (v := .agg #[.bool true, .string k, .string v, .slice ga acc.length gc]) (by simp [results, Tryd.results77, go_sem, z0, z1, z2, z3]) rfl ?_
        refine unhide HGR _ _ ⟨.slice ga acc.length gc, ?_, ?_⟩ (unhide HEN).2.2
        · rw [unhide HD, ← (unhide HKV).1]
        · rw [← (unhide HKV).2]; exact (unhide HEN).2.1
      · have hbk := list_ne hkk
        have HD : Hid (decide ((leadL h t).1 = key) = false) := hide (by rw [← (unhide HKV).1]; simpa using hkk)
        have hE := (unhide G4).fin (.bool false) (.string k) (.string v)
        have z0 := hE.1.cell 0 rfl
        have z1 := hE.1.cell 1 rfl
        have z2 := hE.1.cell 2 rfl
        have z3 := hE.1.cell 3 rfl
        have HEN := hide hE
        unfold set4 set3 at z0 z1 z2 z3
        clear hkk hE
        go_wp2_with fail
        refine bodyPost_ret (v := .agg #[.bool false, .string k, .string v, .slice ga acc.length gc]) (by simp [results, Tryd.results77, go_sem, z0, z1, z2, z3]) rfl ?_
        refine unhide HGR _ _ ⟨.slice ga acc.length gc, ?_, ?_⟩ (unhide HEN).2.2
        · rw [unhide HD, ← (unhide HKV).1]
        · rw [← (unhide HKV).2]; exact (unhide HEN).2.1
    | fork a hv l r =>
      rw [show decide ((Tr.fork a hv l r).toBr.kids.length = 0) = false from rfl] at HLF
      dsimp only [Tr.toBr, Br.key, Br.val, Br.at_, Br.kids] at HLF x0 x1 x2 x3 HX hKB
      rw [show ([l.toBr, r.toBr] : List Br).length = 2 from rfl] at HLF x3 HX hKB
      obtain ⟨r0, r1, r2, r3⟩ := hRI
      obtain ⟨_, _, okl, okr⟩ := hOK
      obtain ⟨bb, off, kvf, rfl, _, hat⟩ := hKB.at (by simp)
      have hbb := hat.lt
      have HK := hide hat
      obtain ⟨kb, no, tn, tq, hkb, hwr, hb2, hn2, HLE, HES, hrn, okn, oko, hgn, hgo⟩ : ∃ (kb no : Nat) (tn tq : Tr), bitN h a = kb ∧ IntKind.i64.wrap (1 - (kb : Int)) = (no : Int) ∧ kb < 2 ∧ no < 2 ∧ Hid (leadL h (.fork a hv l r) = leadL h tn) ∧ Hid (stepsV h (.fork a hv l r) = ⟨a, trR tq⟩ :: stepsV h tn) ∧ Rise (a + 1) tn ∧ TrOK tn ∧ TrOK tq ∧ ([l.toBr, r.toBr] : List Br).getD kb default = tn.toBr ∧ ([l.toBr, r.toBr] : List Br).getD no default = tq.toBr := by
        rcases bitN_01 h a with hb | hb
        · exact ⟨0, 1, l, r, hb, by decide, by omega, by omega, hide (by conv => lhs; unfold leadL; rw [if_pos hb]), hide (by conv => lhs; unfold stepsV; rw [if_pos hb]), r2, okl, okr, rfl, rfl⟩
        · exact ⟨1, 0, r, l, hb, by decide, by omega, by omega, hide (by conv => lhs; unfold leadL; rw [if_neg (by omega)]), hide (by conv => lhs; unfold stepsV; rw [if_neg (by omega)]), r3, okr, okl, rfl, rfl⟩
      obtain ⟨s0, s1, s2, s3⟩ := hat.cells no (by simpa using hn2)
      obtain ⟨d0, d1, d2, d3⟩ := hat.cells kb (by simpa using hb2)
      have KO := hide (hat.kids no (by simpa using hn2))
      have KN := hide (hat.kids kb (by simpa using hb2))
      rw [hgo] at s0 s1 s2 KO
      rw [hgn] at d0 d1 d2 KN
      obtain ⟨kao, kco, hkvo, _, _⟩ := (unhide KO).shape
      obtain ⟨kan, kcn, hkvn, _, _⟩ := (unhide KN).shape
      rw [hkvo] at KO s3
      rw [hkvn] at KN d3
      clear hgo hgn HK okl okr r2 r3
      have HBT := hide (fun wx => l07Bit_any h a wx hks r1)
      have hA : Hid (atCell2 w.heap.size wr = a) := HA
      rw [hkb] at HBT
      clear hKB hat hkvo hkvn HA hkb
      go_wp2_with fail
      refine (unhide HLF wr).mono ?_
      rintro e w4 ⟨rfl, hb4⟩
      have X4 := hide ((unhide HX).below hb4)
      have G4 := hide ((unhide HG).below hb4)
      clear hb4 x0 x1 x2 x3 HX HG
      have x2 := (unhide X4).cell 2 rfl
      go_wp2_with fail
      refine (unhide HBT w4).mono ?_
      rintro e w9 ⟨rfl, hw9⟩
      subst w9
      have x3 := (unhide X4).cell 3 rfl
      have p3 := (unhide G4).p.cell 3 rfl
      have hX4 : w.heap.size < w4.heap.size := (unhide X4).1
      have hP4 : P < w4.heap.size := (unhide G4).p.1
      have t0 := ((unhide G4).b.cell (p := ⟨bb, off + no * 4, none⟩) hbb).trans s0
      have t1 := ((unhide G4).b.cell (p := ⟨bb, off + no * 4 + 1, none⟩) hbb).trans s1
      have t2 := ((unhide G4).b.cell (p := ⟨bb, off + no * 4 + 2, none⟩) hbb).trans s2
      have t3 := ((unhide G4).b.cell (p := ⟨bb, off + no * 4 + 3, none⟩) hbb).trans s3
      have n0 : (0 : Int) ≤ (no : Int) := by omega
      have n1 : (no : Int) < 2 := by omega
      have HRT := hide (l07Root_any tq oko _ _ w4.drew ((unhide KO).blw (below_drewN (unhide G4).b 1)))
      have HXC := hide (fun wx (hx : Below w4.heap.size w4 wx) => And.intro ((hx.cell (p := ⟨w.heap.size, 2, none⟩) hX4).trans x2) ((hx.cell (p := ⟨P, 3, none⟩) hP4).trans p3))
      have HGB := hide (fun wx (hx : Below w4.heap.size w4 wx) => (unhide G4).below hx)
      have HXB := hide (fun wx (hx : Below w4.heap.size w4 wx) => (unhide X4).below hx)
      obtain ⟨tr, htr⟩ : ∃ tr, tr = trR tq := ⟨_, rfl⟩
      rw [← htr] at HRT HES
      clear htr s0 s1 s2 s3
      generalize tq.toBr.key = ok0 at *
      generalize tq.toBr.val = ok1 at *
      generalize tq.toBr.at_ = ok2 at *
      generalize tq.toBr.kids.length = ok3 at *
      go_upto_region 7 with fail
      go_cut [] (fun wx => ∃ gg cg, Blk wx w.heap.size [.string ⟨#[]⟩, .string ⟨#[]⟩, .int .i64 a, .slice (some ⟨bb, off, none⟩) 2 kc] ∧ Gw w.heap.size R E P w wx (.slice (some ⟨gg, 0, none⟩) (acc ++ [(⟨a, tr⟩ : Pk)]).length cg) (acc ++ [⟨a, tr⟩]))
      case first =>
        go_wp2_with fail
        go_region_law (first
          | (go_simp; go_at_call 75; refine (unhide HRT).mono ?_; rintro e w6 ⟨rfl, hb6⟩; have hb6' : Below w4.heap.size w4 w6 := (below_drewN (Below.refl _ w4) 1).trans hb6; obtain ⟨k2, k3⟩ := unhide HXC w6 hb6'; have G6 := unhide HGB w6 hb6'; have X6 := unhide HXB w6 hb6'; have k4 := (((Below.refl w6.heap.size w6).alloc (Nat.le_refl _) (.cells #[.int .i64 a, .string tr] 106)).cell (p := ⟨P, 3, none⟩) G6.p.1).trans k3; go_simp)
          | (refine step_append_lies _ (by rfl) _ _ _ (by rfl) E 106 i0 _ 2 24 Tryd.underlying49 hi hz0 hz1 hz2 rfl (by omega) (.slice ga acc.length gc) acc.length (pksC acc) (by rfl) (OwnP.below G6.o ((Below.refl w6.heap.size w6).alloc (Nat.le_refl _) (.cells #[.int .i64 a, .string tr] 106))) ⟨w6.heap.size, 0, none⟩ 1 1 (pksC [⟨a, tr⟩]) (by rfl) (by rfl) (World.news_of_block (cs := #[.int .i64 a, .string tr]) (t := 106) (fr := (0, 0)) (heap_alloc_new w6 _)) (stp_one _) (by omega) (by unfold maxLen; omega) (by omega) (by have := G6.p.1; simp; omega) (w6.heap.size + 1) (by simp) ?_; intro gg cg w7 hown7 hgrow7 hat7 hlt7; obtain ⟨P7, T7, T6, G7⟩ := G6.push ⟨a, tr⟩ _ hown7 hgrow7 hat7; have k7 := P7.cell 3 rfl; have f7 := P7.fro 3))
        all_goals
          clear k2 k3 k4 k7 f7 P7 hown7 hgrow7 hat7 hlt7 hb6 hb6' x2 x3 p3 t0 t1 t2 t3
          have X7 := hide (X6.kept T7 (fun e => by
            rcases e with e | e
            · have := (G6.o.lt _ e).1; omega
            · omega))
          have HG7 := hide G7
          clear G7 T7 T6 G6 X6
          go_wp2_with fail
          go_meet
          exact ⟨gg, cg, unhide X7, unhide HG7⟩
      case rest =>
        obtain ⟨gg, cg, hXc, hGc⟩ := hcut
        have XC := hide hXc
        have GC := hide hGc
        clear x2 x3 p3 t0 t1 t2 t3 HRT HXC HGB HXB X4 G4
        have x3 := hXc.cell 3 rfl
        have f0 := hXc.fro 0
        have f1 := hXc.fro 1
        have f2 := hXc.fro 2
        have f3 := hXc.fro 3
        have x0 := hXc.cell 0 rfl
        have x1 := hXc.cell 1 rfl
        have x2 := hXc.cell 2 rfl
        have t0 := (hGc.b.cell (p := ⟨bb, off + kb * 4, none⟩) hbb).trans d0
        have t1 := (hGc.b.cell (p := ⟨bb, off + kb * 4 + 1, none⟩) hbb).trans d1
        have t2 := (hGc.b.cell (p := ⟨bb, off + kb * 4 + 2, none⟩) hbb).trans d2
        have t3 := (hGc.b.cell (p := ⟨bb, off + kb * 4 + 3, none⟩) hbb).trans d3
        have m0 : (0 : Int) ≤ (kb : Int) := by omega
        have m1 : (kb : Int) < 2 := by omega
        clear d0 d1 d2 d3 hXc hGc
        have XN := hide (set4_blk (unhide XC) (.string tn.toBr.key) (.string tn.toBr.val) (.int .i64 tn.toBr.at_) (.slice kan tn.toBr.kids.length kcn))
        have GN := hide ((unhide GC).setX (.string tn.toBr.key) (.string tn.toBr.val) (.int .i64 tn.toBr.at_) (.slice kan tn.toBr.kids.length kcn))
        have hat := atCell2_is (X := w.heap.size) (w := set4 wc w.heap.size (.string tn.toBr.key) (.string tn.toBr.val) (.int .i64 tn.toBr.at_) (.slice kan tn.toBr.kids.length kcn)) (a := tn.at_) (by rw [(unhide XN).cell 2 rfl, toBr_at])
        have HAT := hide hat
        clear hat
        go_wp2_with fail
        have hle := hrn.le
        have hle2 := hrn.le256
        refine ⟨⟨a + 1, tn, kan, kcn, some ⟨gg, 0, none⟩, cg, acc ++ [(⟨a, tr⟩ : Pk)], unhide XN, unhide KN, hrn, okn, ?_, ?_, ?_, unhide GN⟩, ?_⟩
        · rw [← unhide HL, unhide HLE]
        · rw [List.append_assoc]; exact (congrArg (acc ++ ·) (unhide HES)).symm.trans (unhide HST)
        · rw [List.length_append, List.length_singleton]; omega
        · have hat2 := unhide HAT
          unfold set4 at hat2
          rw [hat2, unhide hA]
          omega
end Go.Proofs.YtdkljgkpogcjeaaDoor.Sha
