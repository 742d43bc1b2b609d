/- The turns of a way, and the fold that carries a hash along them: turnsOf, climb, fold; InclusionRoot. -/
import Derived.Test.YtiiaehajcomfaaaDoorMkU
namespace Go.Proofs.YtiiaehajcomfaaaDoor.Sha
open Go.ChangeShapes Go.WideShapes Go.ChangeAt Go.RowKit
set_option linter.unusedVariables false
set_option linter.unusedSimpArgs false

def tnC (x : Int × ByteArray) : List Value := [.int .i64 x.1, .string x.2]
theorem tn_get (l : List (Int × ByteArray)) : ∀ i, i < l.length → (l.flatMap tnC)[i * 2]? = some (.int .i64 (l.getD i (0, ByteArray.empty)).1) ∧ (l.flatMap tnC)[i * 2 + 1]? = some (.string (l.getD i (0, ByteArray.empty)).2) := by
  induction l with
  | nil => intro i hi; simp at hi
  | cons x l ih =>
    intro i hi
    cases i with
    | zero => simp [tnC]
    | succ i =>
      have := ih i (by simpa using hi)
      simpa [tnC, Nat.add_mul] using this
theorem tn_len (l : List (Int × ByteArray)) : (l.flatMap tnC).length = l.length * 2 := by
  induction l with
  | nil => rfl
  | cons x l ih => simp [tnC, ih]; omega
/-- A slice of the call's own that holds these turns. -/
def OwnT (B : Nat) (w : World) (v : Value) (l : List (Int × ByteArray)) : Prop := w.ownsRow B 106 2 v l.length (l.flatMap tnC)
theorem OwnT.below {B : Nat} {w w' : World} {v : Value} {l : List (Int × ByteArray)} (h : OwnT B w v l) (hb : Below w.heap.size w w') : OwnT B w' v l := own_kept (T := fun _ => False) h (Touch.ofBelow hb) (fun _ _ h => h)
theorem OwnT.pushed {B g cap n : Nat} {w : World} {l : List (Int × ByteArray)} {t : Int × ByteArray} (hn : n = l.length + 1) (h : w.ownsRow B 106 2 (.slice (some ⟨g, 0, none⟩) n cap) n (l.flatMap tnC ++ [.int .i64 t.1, .string t.2])) : OwnT B w (.slice (some ⟨g, 0, none⟩) n cap) (l ++ [t]) := by
  unfold OwnT
  rw [show (l ++ [t]).length = n by simp; omega]
  simpa [tnC] using h
theorem OwnT.cell {B : Nat} {w : World} {g cap n : Nat} {l : List (Int × ByteArray)} (h : OwnT B w (.slice (some ⟨g, 0, none⟩) n cap) l) (i : Nat) (hi : i < l.length) : w.cell? ⟨g, i * 2, none⟩ = some (.int .i64 (l.getD i (0, ByteArray.empty)).1) ∧ w.cell? ⟨g, i * 2 + 1, none⟩ = some (.string (l.getD i (0, ByteArray.empty)).2) := by
  have hn : n = l.length := by
    rcases h.2 with ⟨hv, _⟩ | ⟨g', cap', cur, hv, _⟩
    · cases hv
    · cases hv; rfl
  subst hn
  obtain ⟨t1, t2⟩ := tn_get l i hi
  exact ⟨by rw [h.cellAt (i * 2) (by omega)]; exact t1, by rw [h.cellAt (i * 2 + 1) (by omega)]; exact t2⟩
theorem infoT : (Tryd.prog.info? 106).map (fun i => (i.zero, i.size, i.bytes)) = some (some (.agg #[.int .i64 0, .string ⟨#[]⟩]), 2, 24) := by kernel_rfl
theorem zip_next {way : List Int} {pr : List ByteArray} {k : Nat} (h1 : k < way.length) (h2 : way.length ≤ pr.length) : (way.zip pr).take (k + 1) = (way.zip pr).take k ++ [(way.getD k 0, pr.getD k ByteArray.empty)] := by
  have hz : k < (way.zip pr).length := by simp; omega
  rw [List.take_add_one, List.getElem?_eq_getElem hz]
  simp [List.getD_eq_getElem?_getD, h1, show k < pr.length by omega]

set_option maxRecDepth 100000 in
set_option maxHeartbeats 2000000 in
theorem turnsOf_any (wv : Value) (way : List Int) (pr : List ByteArray) (B b off cap : Nat) (w : World) (hw : OwnW B w wv way) (hs : SA w b off cap pr) (hwl : way.length ≤ 64) (hle : way.length ≤ pr.length) :
    Calls Tryd.prog 47 #[wv, .slice (some ⟨b, off, none⟩) pr.length cap] w fun e w' => ∃ v, e = .returned v ∧ OwnT w.heap.size w' v (way.zip pr) ∧ Below w.heap.size w w' := by
  obtain ⟨i0, hi, hz0, hz1, hz2⟩ := info_parts infoT
  have hpm : pr.length ≤ 9223372036854775807 := by have := hs.le; have := hs.mx; unfold maxLen at this; omega
  rcases _root_.Go.Proofs.YtiiaehajcomfaaaDoor.own_shape hw with ⟨rfl, h0⟩ | ⟨g, wc, rfl, hB, hlt0, hn, hm⟩
  · obtain rfl := List.eq_nil_of_length_eq_zero h0
    clear hw hs
    go_enter Tryd.func47, Tryd.ntmps47
    go_wp2_with fail
    go_loopw [5, 10] (fun ov i wr => ov = .slice none 0 0 ∧ i = .int .i64 0 ∧ wr = w) (fun _ _ _ => 0)
    case atStart => exact ⟨rfl, rfl, rfl⟩
    case round =>
      obtain ⟨rfl, rfl, hwr⟩ := hrel
      subst wr
      go_wp2_with fail
      go_ret
      exact ⟨_, rfl, World.ownsRow_nil _ _ 106 2, Below.refl _ _⟩
  have HW := hide hw
  have HS := hide hs
  clear hw hs
  go_enter Tryd.func47, Tryd.ntmps47
  go_wp2_with fail
  go_loopw [5, 10] (fun ov i wr => ∃ k : Nat, k ≤ way.length ∧ i = .int .i64 k ∧ OwnT w.heap.size wr ov ((way.zip pr).take k) ∧ Below w.heap.size w wr) (fun _ i _ => way.length - (intOf i).toNat)
  case atStart => exact ⟨0, Nat.zero_le _, rfl, World.ownsRow_nil _ _ 106 2, Below.refl _ _⟩
  case round =>
    obtain ⟨k, hk, rfl, hO, hb⟩ := hrel
    by_cases hlt : k < way.length
    · have c0 := ((unhide HW).below hb).cell k hlt
      have c1 := ((unhide HS).below hb).cell k (by omega)
      have hk0 : (0 : Int) ≤ (k : Int) := by omega
      have hk1 : (k : Int) < (way.length : Int) := by omega
      have hk2 : (k : Int) < (pr.length : Int) := by omega
      have HE := hide (zip_next (pr := pr) hlt hle)
      have hl1 : ((way.zip pr).take k).length = k := by simp; omega
      have HL1 := hide hl1
      have HO := hide hO
      have HB := hide hb
      have hbs := hb.size
      clear hO hb hl1
      generalize (way.zip pr).take k = tk at *
      generalize way.getD k 0 = x at *
      generalize pr.getD k ByteArray.empty = y at *
      have HO1 := hide (show wr.ownsRow w.heap.size 106 2 u5 k (tk.flatMap tnC) by have := unhide HO; unfold OwnT at this; rw [unhide HL1] at this; exact this)
      go_wp2_with (at_builtin; refine wpList_append_lies _ rfl _ _ _ rfl w.heap.size 106 i0 _ 2 24 Tryd.underlying76 hi hz0 hz1 hz2 rfl (by omega) u5 k (tk.flatMap tnC) rfl (own_kept (T := fun _ => False) (unhide HO1) (Touch.ofBelow ((Below.refl wr.heap.size wr).alloc (Nat.le_refl _) (.cells #[.int .i64 x, .string y] 106))) (fun _ _ h => h)) ⟨wr.heap.size, 0, none⟩ 1 1 [_, _] rfl rfl (World.news_of_block (cs := #[_, _]) (t := 106) (fr := (0, 0)) (heap_alloc_new wr _)) (by simp [Value.oneCell']) (by omega) (by unfold maxLen; omega) (by omega) (by simp; omega) _ rfl ?_; intro g3 cap3 w3 hown3 hgrow3 hat3 hlt3; have R := hide (And.intro (OwnT.pushed (t := (x, y)) (by rw [unhide HL1]) hown3) (((unhide HB).alloc hbs (.cells #[.int .i64 x, .string y] 106)).grown hgrow3 (by simp; omega) (fun r hr => ((unhide HO1).lt r hr).1))); clear hown3 hgrow3 hat3 hlt3)
      refine ⟨⟨k + 1, by omega, by go_num, by rw [unhide HE]; exact (unhide R).1, (unhide R).2⟩, ?_⟩
      simp [intOf]; omega
    · obtain rfl : k = way.length := by omega
      have HE : Hid ((way.zip pr).take way.length = way.zip pr) := hide (List.take_of_length_le (by simp; omega))
      have R := hide (And.intro hO hb)
      rw [unhide HE] at R
      clear hO hb
      go_wp2_with fail
      go_ret
      exact ⟨_, rfl, (unhide R).1, (unhide R).2⟩

/-- What is hashed one turn further up. -/
def inV (h : ByteArray) (t : Int × ByteArray) : ByteArray := if t.1 = 0 then nodeI t.2 h else nodeI h t.2
theorem inV_size {h : ByteArray} {t : Int × ByteArray} (hh : h.size = 32) (ht : t.2.size = 32) : (inV h t).size = 65 := by
  unfold inV; split
  · exact nodeI_size ht hh
  · exact nodeI_size hh ht
theorem climb_inV (h : ByteArray) (t : Int × ByteArray) : climbV h t = hashV (bytesI (inV h t)) := by
  unfold climbV inV; split
  · rw [nodeI_bytes]; rfl
  · rw [nodeI_bytes]; rfl
set_option maxRecDepth 100000 in
set_option maxHeartbeats 1000000 in
theorem input_any (h : ByteArray) (s : Int) (x : ByteArray) (w : World) (hh : h.size = 32) (hx : x.size = 32) :
    Calls Tryd.prog 72 #[.agg #[.int .i64 s, .string x], .string h] w fun e w' => e = .returned (.string (inV h (s, x))) ∧ Below w.heap.size w w' := by
  have B0 := hide ((Below.refl w.heap.size w).alloc (Nat.le_refl _) (.cells #[.int .i64 s, .string x] 106))
  have HH := hide (And.intro hh hx)
  clear hh hx
  by_cases h0 : s = 0
  · have HV : Hid (inV h (s, x) = nodeI x h) := hide (if_pos h0)
    subst h0
    go_enter Tryd.func72, Tryd.ntmps72
    go_wp2_with fail
    refine (nodeInput_any x h _ (unhide HH).2 (unhide HH).1).mono ?_
    rintro e w2 ⟨rfl, hw⟩
    subst w2
    rw [← unhide HV]
    go_wp2_with fail
    go_ret
    exact ⟨rfl, unhide B0⟩
  · have HV : Hid (inV h (s, x) = nodeI h x) := hide (if_neg h0)
    go_enter Tryd.func72, Tryd.ntmps72
    go_wp2_with fail
    refine (nodeInput_any h x _ (unhide HH).1 (unhide HH).2).mono ?_
    rintro e w2 ⟨rfl, hw⟩
    subst w2
    rw [← unhide HV]
    go_wp2_with fail
    go_ret
    exact ⟨rfl, unhide B0⟩
theorem inConv (h : ByteArray) (t : Int × ByteArray) (w : World) (hh : h.size = 32) (hx : t.2.size = 32) : ∃ cap w1, (convert 9 81 (.string (inV h t))).run Tryd.prog w = .ok (.slice (some ⟨w.heap.size, 0, none⟩) 65 cap) w1 ∧ Bytes w1 (.slice (some ⟨w.heap.size, 0, none⟩) 65 cap) (bytesI (inV h t)) ∧ Below w.heap.size w w1 := by
  obtain ⟨cap, w1, hcv, hB, hb1⟩ := str_bytesB (inV h t) w (by rw [inV_size hh hx]; unfold maxLen; omega)
  rw [inV_size hh hx] at hcv hB
  exact ⟨cap, w1, hcv, hB, hb1⟩
set_option maxRecDepth 100000 in
set_option maxHeartbeats 1000000 in
theorem climb_any (h : ByteArray) (s : Int) (x : ByteArray) (w : World) (hh : h.size = 32) (hx : x.size = 32) (ht : Tab w) :
    Calls Tryd.prog 70 #[.string h, .agg #[.int .i64 s, .string x]] w fun e w' => e = .returned (.string (climbV h (s, x))) ∧ Below w.heap.size w w' := by
  have HT := hide ht
  have B0 := hide ((Below.refl w.heap.size w).alloc (Nat.le_refl _) (.cells #[.int .i64 s, .string x] 106))
  have HI := hide (fun wx => input_any h s x wx hh hx)
  have HC := hide (fun wx => inConv h (s, x) wx hh hx)
  have HV := hide (climb_inV h (s, x))
  clear ht hh hx
  generalize inV h (s, x) = y at *
  generalize climbV h (s, x) = z at *
  go_enter Tryd.func70, Tryd.ntmps70
  go_wp2_with fail
  refine (unhide HI _).mono ?_
  rintro e w1 ⟨rfl, hb1⟩
  have B1 := hide ((unhide B0).trans (hb1.mono (by simp)))
  clear hb1 HI B0
  obtain ⟨cap, w2, hcv, hB, hb2⟩ := unhide HC w1
  have HB := hide hB
  have B2 := hide ((unhide B1).trans (hb2.mono (unhide B1).size))
  clear hB hb2 HC
  go_wp2_with fail
  refine (implHash_any _ _ w2 (unhide HB) ((unhide HT).below (unhide B2)).2 ((unhide HT).below (unhide B2)).1).mono ?_
  rintro e w3 ⟨rfl, hb3⟩
  have K := hide ((unhide B2).trans (hb3.mono (unhide B2).size))
  clear hb3
  rw [← unhide HV]
  go_wp2_with fail
  go_ret
  exact ⟨rfl, unhide K⟩
theorem climb_size {h : ByteArray} {t : Int × ByteArray} (hh : h.size = 32) (ht : t.2.size = 32) : (climbV h t).size = 32 := by
  unfold climbV; split
  · exact node_size ht hh
  · exact node_size hh ht
theorem foldl_next {α β : Type} (f : α → β → α) (a : α) (l : List β) (d : β) (k : Nat) (h : k < l.length) : (l.take (k + 1)).foldl f a = f ((l.take k).foldl f a) (l.getD k d) := by
  rw [List.take_add_one, List.foldl_append, List.getElem?_eq_getElem h, List.getD_eq_getElem?_getD, List.getElem?_eq_getElem h]
  rfl
theorem fold_size (l : List (Int × ByteArray)) (leaf : ByteArray) (hl : leaf.size = 32) (hs : ∀ i, i < l.length → (l.getD i (0, ByteArray.empty)).2.size = 32) : ∀ k, k ≤ l.length → ((l.take k).foldl climbV leaf).size = 32 := by
  intro k
  induction k with
  | zero => intro _; simpa using hl
  | succ k ih =>
    intro hk
    rw [foldl_next climbV leaf l (0, ByteArray.empty) k (by omega)]
    exact climb_size (ih (by omega)) (hs k (by omega))
set_option maxRecDepth 100000 in
set_option maxHeartbeats 2000000 in
theorem foldT_any (v : Value) (l : List (Int × ByteArray)) (leaf : ByteArray) (B : Nat) (w : World) (hO : OwnT B w v l) (hll : l.length ≤ 64) (hs : ∀ i, i < l.length → (l.getD i (0, ByteArray.empty)).2.size = 32) (hl : leaf.size = 32) (ht : Tab w) :
    Calls Tryd.prog 69 #[v, .string leaf, .func (.func 70) #[] #[]] w fun e w' => e = .returned (.string (l.foldl climbV leaf)) ∧ Below w.heap.size w w' := by
  rcases _root_.Go.Proofs.YtiiaehajcomfaaaDoor.own_shape hO with ⟨rfl, h0⟩ | ⟨g, wc, rfl, hB, hlt0, hn, hm⟩
  · obtain rfl := List.eq_nil_of_length_eq_zero h0
    clear hO hs
    go_enter Tryd.func69, Tryd.ntmps69
    go_wp2_with fail
    go_loopw [1, 11] (fun ov i wr => ov = .string leaf ∧ i = .int .i64 0 ∧ wr = w) (fun _ _ _ => 0)
    case atStart => exact ⟨rfl, rfl, rfl⟩
    case round =>
      obtain ⟨rfl, rfl, hwr⟩ := hrel
      subst wr
      go_wp2_with fail
      go_ret
      exact ⟨rfl, Below.refl _ _⟩
  have HW := hide hO
  have HS := hide hs
  have HT := hide ht
  have HF := hide (fold_size l leaf hl hs)
  clear hO hs ht
  go_enter Tryd.func69, Tryd.ntmps69
  go_wp2_with fail
  go_loopw [1, 11] (fun ov i wr => ∃ k : Nat, k ≤ l.length ∧ i = .int .i64 k ∧ ov = .string ((l.take k).foldl climbV leaf) ∧ Below w.heap.size w wr) (fun _ i _ => l.length - (intOf i).toNat)
  case atStart => exact ⟨0, Nat.zero_le _, rfl, rfl, Below.refl _ _⟩
  case round =>
    obtain ⟨k, hk, rfl, rfl, hb⟩ := hrel
    by_cases hlt : k < l.length
    · obtain ⟨c0, c1⟩ := ((unhide HW).below hb).cell k hlt
      have hk0 : (0 : Int) ≤ (k : Int) := by omega
      have hk1 : (k : Int) < (l.length : Int) := by omega
      have HE := hide (foldl_next climbV leaf l (0, ByteArray.empty) k hlt)
      have z1 := unhide HF k (by omega)
      have z2 := unhide HS k hlt
      have HZ := hide (And.intro z1 z2)
      have HB := hide hb
      have hbs := hb.size
      clear hb z1 z2
      generalize (l.take k).foldl climbV leaf = h at *
      generalize l.getD k (0, ByteArray.empty) = t at *
      obtain ⟨s, x⟩ := t
      dsimp only at c0 c1 HE HZ
      have B1 := hide ((unhide HB).alloc hbs (.cells #[.int .i64 s, .string x] 106))
      go_wp2_with fail
      generalize wr.alloc (.cells #[.int .i64 s, .string x] 106) = w1 at *
      refine (climb_any h s x w1 (unhide HZ).1 (unhide HZ).2 ((unhide HT).below (unhide B1))).mono ?_
      rintro e w2 ⟨rfl, hb2⟩
      have B2 := hide ((unhide B1).trans (hb2.mono (unhide B1).size))
      clear hb2
      go_wp2_with fail
      refine ⟨⟨k + 1, by omega, by go_num, by rw [unhide HE], unhide B2⟩, ?_⟩
      simp [intOf]; omega
    · obtain rfl : k = l.length := by omega
      have R := hide hb
      clear hb
      rw [List.take_length]
      go_wp2_with fail
      go_ret
      exact ⟨rfl, unhide R⟩

/-- What InclusionRoot answers. -/
def rootOut (leaf : ByteArray) (p n : Int) (pr : List ByteArray) : ByteArray × Int :=
  if mxI (hfC leaf) (codeL pr) = 0 then
    (if inB n 1 64 = true ∧ inB p 0 (n - 1) = true then
      (if pr.length = (wayV p.toNat n.toNat).length then (((wayV p.toNat n.toNat).zip pr).foldl climbV leaf, 0) else (⟨#[]⟩, 10))
    else (⟨#[]⟩, 4))
  else (⟨#[]⟩, mxI (hfC leaf) (codeL pr))
theorem hfC_ok {s : ByteArray} (h : hfC s = 0) : s.size = 32 := by
  unfold hfC at h
  split at h
  · cases h
  · split at h
    · assumption
    · cases h
theorem hfC_cases (s : ByteArray) : hfC s = 0 ∨ hfC s = 1 ∨ hfC s = 2 := by
  unfold hfC; split
  · exact .inr (.inr rfl)
  · split
    · exact .inl rfl
    · exact .inr (.inl rfl)
theorem mxI_zero {a b : Int} (ha : 0 ≤ a) (hb : 0 ≤ b) (h : mxI a b = 0) : a = 0 ∧ b = 0 := by
  unfold mxI at h; split at h <;> omega
theorem codeL_lo (l : List ByteArray) : 0 ≤ codeL l := by rcases codeL_cases l with h | h | h <;> omega
theorem zip_size {way : List Int} {pr : List ByteArray} (h : AllH pr) (hl : pr.length = way.length) : ∀ i, i < (way.zip pr).length → ((way.zip pr).getD i (0, ByteArray.empty)).2.size = 32 := by
  intro i hi
  have h1 : i < way.length := by simp at hi; omega
  have h2 : i < pr.length := by omega
  have := h i h2
  rw [List.getD_eq_getElem?_getD, List.getElem?_eq_getElem h2] at this
  rw [List.getD_eq_getElem?_getD, List.getElem?_eq_getElem hi]
  simpa using this
set_option maxRecDepth 100000 in
set_option maxHeartbeats 2000000 in
theorem implRoot_any (leaf : ByteArray) (p n : Int) (pr : List ByteArray) (b off cap : Nat) (w : World) (hz : leaf.size ≤ 1048576) (hn : (Lit.int .i64 n).wf = true) (hs : SA w b off cap pr) (hpz : ∀ i, (pr.getD i ByteArray.empty).size ≤ 1048576) (ht : Tab w) :
    Calls Tryd.prog 44 #[.string leaf, .int .i64 p, .int .i64 n, .slice (some ⟨b, off, none⟩) pr.length cap] w fun e w' => e = .returned (.tuple #[.string (rootOut leaf p n pr).1, .int .i64 (rootOut leaf p n pr).2]) ∧ Below w.heap.size w w' := by
  have hle : pr.length ≤ 9223372036854775807 := by have := hs.le; have := hs.mx; unfold maxLen at this; omega
  have H1 := hide (hashFault_any leaf w (by unfold maxLen; omega))
  have H2 := hide (hashesFault_any pr b off cap w hs hpz)
  have HO : Hid (rootOut leaf p n pr = if mxI (hfC leaf) (codeL pr) = 0 then
    (if inB n 1 64 = true ∧ inB p 0 (n - 1) = true then
      (if pr.length = (wayV p.toNat n.toNat).length then (((wayV p.toNat n.toNat).zip pr).foldl climbV leaf, 0) else (⟨#[]⟩, 10))
    else (⟨#[]⟩, 4))
    else (⟨#[]⟩, mxI (hfC leaf) (codeL pr))) := rfl
  have l1 := hfC_lo leaf
  have l2 := codeL_lo pr
  have HK := hide (fun h : mxI (hfC leaf) (codeL pr) = 0 => And.intro (hfC_ok (mxI_zero l1 l2 h).1) (codeL_ok (mxI_zero l1 l2 h).2))
  have HT := hide ht
  have HS := hide hs
  clear ht hs hpz
  generalize hfC leaf = c1 at *
  generalize codeL pr = c2 at *
  have B0 := hide ((Below.refl w.heap.size w).alloc (Nat.le_refl _) (.cells #[.int .i64 c1, .int .i64 c2] 3))
  have HW := hide (worst_any c1 c2 w.heap.size (w.alloc (.cells #[.int .i64 c1, .int .i64 c2] 3)) l1 l2 (by rw [World.cell?_alloc_at _ _ _ _ rfl]; rfl) (by rw [World.cell?_alloc_at _ _ _ _ rfl]; rfl))
  generalize mxI c1 c2 = c at *
  go_enter Tryd.func44, Tryd.ntmps44
  go_wp2_with fail
  refine (unhide H1).mono ?_
  rintro e w9 ⟨rfl, hw⟩
  subst w9
  go_wp2_with fail
  refine (unhide H2).mono ?_
  rintro e w9 ⟨rfl, hw⟩
  subst w9
  go_wp2_with fail
  refine (unhide HW).mono ?_
  rintro e w9 ⟨rfl, hw⟩
  subst w9
  generalize w.alloc (.cells #[.int .i64 c1, .int .i64 c2] 3) = w1 at *
  rcases (show ¬ c = 0 ∨ c = 0 by omega) with hc | hc
  · rw [if_neg hc] at HO
    go_wp2_with fail
    go_ret2
    exact ⟨by rw [unhide HO]; rfl, unhide B0⟩
  have HG := hide (unhide HK hc)
  subst hc
  rw [if_pos rfl] at HO
  have I1 := hide (within_any n 1 64 w1)
  have I2 := hide (inB_iff (n := n) (lo := 1) (hi := 64))
  generalize inB n 1 64 = b1 at *
  go_wp2_with fail
  refine (unhide I1).mono ?_
  rintro e w9 ⟨rfl, hw⟩
  subst w9
  cases b1
  · rw [if_neg (by simp)] at HO
    go_wp2_with fail
    go_ret2
    exact ⟨by rw [unhide HO]; rfl, unhide B0⟩
  obtain ⟨n0, n1⟩ := (unhide I2).1 rfl
  have I3 := hide (within_any p 0 (n - 1) w1)
  have I4 := hide (inB_iff (n := p) (lo := 0) (hi := n - 1))
  generalize inB p 0 (n - 1) = b2 at *
  go_wp2_with fail
  refine (unhide I3).mono ?_
  rintro e w9 ⟨rfl, hw⟩
  subst w9
  cases b2
  · rw [if_neg (by simp)] at HO
    go_wp2_with fail
    go_ret2
    exact ⟨by rw [unhide HO]; rfl, unhide B0⟩
  obtain ⟨p0, p1⟩ := (unhide I4).1 rfl
  rw [if_pos (by simp)] at HO
  obtain ⟨pn, rfl⟩ : ∃ q : Nat, p = (q : Int) := ⟨p.toNat, by omega⟩
  obtain ⟨nn, rfl⟩ : ∃ q : Nat, n = (q : Int) := ⟨n.toNat, by omega⟩
  rw [Int.toNat_natCast, Int.toNat_natCast] at HO
  have HY := hide (wayUp_any nn pn w1 (by omega) (by omega) (by omega))
  have hwl := way_len nn pn (by omega)
  clear I1 I2 I3 I4 H1 H2 HW HK
  generalize wayV pn nn = way at *
  go_wp2_with fail
  refine (unhide HY).mono ?_
  rintro e w2 ⟨wv, rfl, hO2, hb2⟩
  have B2 := hide ((unhide B0).trans (hb2.mono (unhide B0).size))
  have O2 := hide hO2
  have hsh : ∃ a c, wv = .slice a way.length c := by
    rcases _root_.Go.Proofs.YtiiaehajcomfaaaDoor.own_shape hO2 with ⟨rfl, h0⟩ | ⟨g, c, rfl, _⟩
    · exact ⟨none, 0, by rw [h0]⟩
    · exact ⟨_, _, rfl⟩
  obtain ⟨wa, wc, rfl⟩ := hsh
  clear hO2 hb2 B0 HY
  by_cases hpl : pr.length = way.length
  · rw [if_pos hpl] at HO
    have HPL := hide hpl
    have HSZ := hide (zip_size (way := way) (unhide HG).2.2 hpl)
    have hpi : (pr.length : Int) = (way.length : Int) := by omega
    have HTO := hide (turnsOf_any (.slice wa way.length wc) way pr _ b off cap w2 (unhide O2) ((unhide HS).below (unhide B2)) (by omega) (by omega))
    have hzl : (way.zip pr).length ≤ 64 := by simp; omega
    have HZL := hide hzl
    clear hzl hpl
    go_wp2_with fail
    refine (unhide HTO).mono ?_
    rintro e w3 ⟨tv, rfl, hO3, hb3⟩
    have B3 := hide ((unhide B2).trans (hb3.mono (unhide B2).size))
    have O3 := hide hO3
    clear hO3 hb3 B2 O2 HTO
    go_wp2_with fail
    refine (foldT_any tv (way.zip pr) leaf _ w3 (unhide O3) (unhide HZL) (unhide HSZ) (unhide HG).1 ((unhide HT).below (unhide B3))).mono ?_
    rintro e w4 ⟨rfl, hb4⟩
    have B4 := hide ((unhide B3).trans (hb4.mono (unhide B3).size))
    clear hb4 O3 B3
    generalize (way.zip pr).foldl climbV leaf = res at *
    go_wp2_with fail
    go_ret2
    exact ⟨by rw [unhide HO]; rfl, unhide B4⟩
  · rw [if_neg hpl] at HO
    have hpi : ¬ (pr.length : Int) = (way.length : Int) := by omega
    go_wp2_with fail
    go_ret2
    exact ⟨by rw [unhide HO]; rfl, unhide B2⟩
end Go.Proofs.YtiiaehajcomfaaaDoor.Sha
