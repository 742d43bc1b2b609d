/- impl.Collision. -/
import Derived.Test.YtcaadcdjipdjeaaDoorBkS
import Derived.Test.YtcaadcdjipdjeaaDoorRnw
import Derived.Test.YtcaadcdjipdjeaaDoorMkW
namespace Go.Proofs.YtcaadcdjipdjeaaDoor.Sha
open Go.ChangeShapes Go.WideShapes Go.ChangeAt Go.RowKit Go.Shelf
set_option linter.unusedVariables false
set_option linter.unusedSimpArgs false
attribute [local go_sem] Oper.semAt_some

/-- Three boxes, one behind the other: two texts and a number. -/
def Bx3 (W : World) (b : Nat) (x y z : Value) : Prop := Boxed W b 9 x ∧ Boxed W (b + 1) 9 y ∧ Boxed W (b + 1 + 1) 3 z
theorem Bx3.new (w : World) (x y z : Value) : Bx3 (((w.alloc (.cells #[x] 9)).alloc (.cells #[y] 9)).alloc (.cells #[z] 3)) w.heap.size x y z := by
  refine ⟨((Boxed.new w 9 x).alloc _).alloc _, ?_, ?_⟩
  · have := (Boxed.new (w.alloc (.cells #[x] 9)) 9 y).alloc (.cells #[z] 3)
    simpa using this
  · have := Boxed.new ((w.alloc (.cells #[x] 9)).alloc (.cells #[y] 9)) 3 z
    simpa using this
theorem Boxed.blw {W W' : World} {b : Nat} {t : TypeId} {v : Value} (h : Boxed W b t v) (hb : Below W.heap.size W W') : Boxed W' b t v := (hb.block b h.lt).trans h
theorem Bx3.below {W W' : World} {b : Nat} {x y z : Value} (h : Bx3 W b x y z) (hb : Below W.heap.size W W') : Bx3 W' b x y z :=
  ⟨Boxed.blw h.1 hb, Boxed.blw h.2.1 hb, Boxed.blw h.2.2 hb⟩
theorem Bx3.cells {W : World} {b : Nat} {x y z : Value} (h : Bx3 W b x y z) : W.cell? ⟨b, 0, none⟩ = some x ∧ W.cell? ⟨b + 1, 0, none⟩ = some y ∧ W.cell? ⟨b + 1 + 1, 0, none⟩ = some z ∧ W.frozen? ⟨b, 0, none⟩ = false ∧ W.frozen? ⟨b + 1, 0, none⟩ = false ∧ W.frozen? ⟨b + 1 + 1, 0, none⟩ = false :=
  ⟨h.1.cell, h.2.1.cell, h.2.2.cell, h.1.frozen, h.2.1.frozen, h.2.2.frozen⟩
/-- All three written. -/
def set3 (W : World) (b : Nat) (x y z : Value) : World := ((W.setCell ⟨b, 0, none⟩ x).setCell ⟨b + 1, 0, none⟩ y).setCell ⟨b + 1 + 1, 0, none⟩ z
theorem Bx3.put {W : World} {b : Nat} {x y z : Value} (h : Bx3 W b x y z) (x' y' z' : Value) : Bx3 (set3 W b x' y' z') b x' y' z' := by
  unfold set3
  refine ⟨?_, ?_, ?_⟩
  · exact ((h.1.set x').other (by omega) y').other (by omega) z'
  · exact ((h.2.1.other (by omega) x').set y').other (by omega) z'
  · exact ((h.2.2.other (by omega) x').other (by omega) y').set z'
theorem set3_below {B : Nat} {a W : World} (h : Below B a W) {b : Nat} (hb : B ≤ b) (x y z : Value) : Below B a (set3 W b x y z) :=
  ((h.setCell (p := ⟨b, 0, none⟩) hb x).setCell (p := ⟨b + 1, 0, none⟩) (by dsimp only; omega) y).setCell (p := ⟨b + 1 + 1, 0, none⟩) (by dsimp only; omega) z
theorem set3_keeps (W : World) (b : Nat) (x y z : Value) : KeepsOthers W (set3 W b x y z) :=
  ((KeepsOthers.setCell W ⟨b, 0, none⟩ x).trans (KeepsOthers.setCell _ ⟨b + 1, 0, none⟩ y)).trans (KeepsOthers.setCell _ ⟨b + 1 + 1, 0, none⟩ z)
/-- What a round that leaves has told. -/
def lstT {n : Nat} (pre : List (TA n)) : ByteArray := match pre.getLast? with
  | some x => x.1.2
  | none => ⟨#[]⟩
def lstI {n : Nat} (pre : List (TA n)) : Nat := match pre.getLast? with
  | some x => x.1.1
  | none => 0
theorem lstT_app {n : Nat} (pre : List (TA n)) (x : TA n) : lstT (pre ++ [x]) = x.1.2 := by unfold lstT; simp
theorem lstI_app {n : Nat} (pre : List (TA n)) (x : TA n) : lstI (pre ++ [x]) = x.1.1 := by unfold lstI; simp
theorem fd_none (a b : List ByteArray) : ∀ (k : Nat) (h : k ≤ a.length), (∀ x ∈ twd a k h, x.1.2 = b.getD x.1.1 ByteArray.empty) → fdA a b a.length = fdA a b (a.length - k) := by
  intro k
  induction k with
  | zero => intro _ _; rfl
  | succ k ih =>
    intro h hx
    rw [ih (by omega) (fun x hm => hx x (List.mem_append.2 (.inl hm)))]
    have h1 := hx (tel a k (by omega)) (List.mem_append.2 (.inr (by simp)))
    dsimp only [tel] at h1
    obtain ⟨q, hq⟩ : ∃ q, a.length - k = q + 1 := ⟨a.length - k - 1, by omega⟩
    rw [show a.length - 1 - k = q by omega] at h1
    rw [hq, fdA_eq h1, show a.length - (k + 1) = q by omega]
theorem fd_found (a b : List ByteArray) (k : Nat) (h : k + 1 ≤ a.length) (hx : ∀ x ∈ twd a k (by omega), x.1.2 = b.getD x.1.1 ByteArray.empty) (hne : (tel a k (by omega)).1.2 ≠ b.getD (tel a k (by omega)).1.1 ByteArray.empty) :
    fdA a b a.length = ((tel a k (by omega)).1.2, b.getD (tel a k (by omega)).1.1 ByteArray.empty, 0) := by
  rw [fd_none a b k (by omega) hx]
  obtain ⟨q, hq⟩ : ∃ q, a.length - k = q + 1 := ⟨a.length - k - 1, by omega⟩
  dsimp only [tel] at hne ⊢
  rw [show a.length - 1 - k = q by omega] at hne ⊢
  rw [hq, fdA_ne hne]

set_option maxRecDepth 100000 in
set_option maxHeartbeats 8000000 in
theorem implCol_any (p n : Int) (la : ByteArray) (pa : List ByteArray) (lb : ByteArray) (pb : List ByteArray) (ba oa ca bb ob cb : Nat) (w : World) (hza : la.size ≤ 1048576) (hzb : lb.size ≤ 1048576) (hn : (Lit.int .i64 n).wf = true)
    (hsa : SA w ba oa ca pa) (hpa : ∀ i, (pa.getD i ByteArray.empty).size ≤ 1048576) (hsb : SA w bb ob cb pb) (hpb : ∀ i, (pb.getD i ByteArray.empty).size ≤ 1048576) (ht : Tab w) :
    Calls Tryd.prog 7 #[.int .i64 p, .int .i64 n, .string la, .slice (some ⟨ba, oa, none⟩) pa.length ca, .string lb, .slice (some ⟨bb, ob, none⟩) pb.length cb] w fun e w' => e = .returned (colV (colOut p n la pa lb pb)) ∧ Below w.heap.size w w' := by
  refine (callsIn_wide (n := 5)).1 ?_
  have hdd : ∀ k : Nat, (Fence.wide.depth.isSome = true → 1 ≤ k) := fun k h => by cases h
  have HO : Hid (colOut p n la pa lb pb = if mx4 (hfC la) (codeL pa) (hfC lb) (codeL pb) = 0 then
    (if inB n 1 64 = true ∧ inB p 0 (n - 1) = true then
      (if pa.length = (wayV p.toNat n.toNat).length ∧ pb.length = (wayV p.toNat n.toNat).length then
        (if ((wayV p.toNat n.toNat).zip pa).foldl climbV la = ((wayV p.toNat n.toNat).zip pb).foldl climbV lb then
          fdA (inpL ((wayV p.toNat n.toNat).zip pa) la) (inpL ((wayV p.toNat n.toNat).zip pb) lb) (wayV p.toNat n.toNat).length
        else (⟨#[]⟩, ⟨#[]⟩, 11))
      else (⟨#[]⟩, ⟨#[]⟩, 10))
    else (⟨#[]⟩, ⟨#[]⟩, 4))
  else (⟨#[]⟩, ⟨#[]⟩, mx4 (hfC la) (codeL pa) (hfC lb) (codeL pb))) := rfl
  have H1 := hide (fun wx => hashFault_any la wx (by unfold maxLen; omega))
  have H2 := hide (fun wx hx => hashesFault_any pa ba oa ca wx hx hpa)
  have H3 := hide (fun wx => hashFault_any lb wx (by unfold maxLen; omega))
  have H4 := hide (fun wx hx => hashesFault_any pb bb ob cb wx hx hpb)
  have HRA := hide (fun wx hx hy => implRoot_any la p n pa ba oa ca wx hza hn hx hpa hy)
  have HRB := hide (fun wx hx hy => implRoot_any lb p n pb bb ob cb wx hzb hn hx hpb hy)
  have HT := hide ht
  have HSA := hide hsa
  have HSB := hide hsb
  have q1 := hfC_lo la
  obtain ⟨m1, m2, m3, m4⟩ := mx4_ge (hfC la) (codeL pa) (hfC lb) (codeL pb)
  have HM := hide (And.intro m1 (And.intro m2 (And.intro m3 m4)))
  have HLO := hide (And.intro q1 (And.intro (codeL_lo pa) (And.intro (hfC_lo lb) (codeL_lo pb))))
  have HKA := hide (fun h : codeL pa = 0 => codeL_ok h)
  have HKB := hide (fun h : codeL pb = 0 => codeL_ok h)
  have HK1 := hide (fun h : hfC la = 0 => hfC_ok h)
  have HK3 := hide (fun h : hfC lb = 0 => hfC_ok h)
  have HEA : Hid (rootOut la p n pa = if mxI (hfC la) (codeL pa) = 0 then
    (if inB n 1 64 = true ∧ inB p 0 (n - 1) = true then
      (if pa.length = (wayV p.toNat n.toNat).length then (((wayV p.toNat n.toNat).zip pa).foldl climbV la, 0) else (⟨#[]⟩, 10))
    else (⟨#[]⟩, 4)) else (⟨#[]⟩, mxI (hfC la) (codeL pa))) := rfl
  have HEB : Hid (rootOut lb p n pb = if mxI (hfC lb) (codeL pb) = 0 then
    (if inB n 1 64 = true ∧ inB p 0 (n - 1) = true then
      (if pb.length = (wayV p.toNat n.toNat).length then (((wayV p.toNat n.toNat).zip pb).foldl climbV lb, 0) else (⟨#[]⟩, 10))
    else (⟨#[]⟩, 4)) else (⟨#[]⟩, mxI (hfC lb) (codeL pb))) := rfl
  have HW4 := hide (fun (B : Nat) (wx : World) k0 k1 k2 k3 => worstL_any [hfC la, codeL pa, hfC lb, codeL pb] B 4 wx (by simp) (fun i hi => by
    match i, hi with
    | 0, _ => exact k0
    | 1, _ => exact k1
    | 2, _ => exact k2
    | 3, _ => exact k3))
  rw [mx4_eq q1] at HW4
  have hN64 : ∀ x : Int, inB x 1 64 = true ↔ 1 ≤ x ∧ x ≤ 64 := fun x => inB_iff
  have HN64 := hide (hN64 n)
  have HP64 := hide (inB_iff (n := p) (lo := 0) (hi := n - 1))
  clear ht hsa hsb hpa hpb hza hzb hn q1 m1 m2 m3 m4 hN64
  generalize colOut p n la pa lb pb = out at *
  generalize hfC la = c1 at *
  generalize codeL pa = c2 at *
  generalize hfC lb = c3 at *
  generalize codeL pb = c4 at *
  generalize mx4 c1 c2 c3 c4 = c at *
  generalize rootOut la p n pa = ra at *
  generalize rootOut lb p n pb = rb at *
  have X0 := hide (Bx3.new w (.string ⟨#[]⟩) (.string ⟨#[]⟩) (.int .i64 0))
  have B0 := hide ((((Below.refl w.heap.size w).alloc (Nat.le_refl _) (.cells #[.string ⟨#[]⟩] 9)).alloc (by simp) (.cells #[.string ⟨#[]⟩] 9)).alloc (by simp; omega) (.cells #[.int .i64 0] 3))
  have z0 : w.heap.size + 1 + 1 < (((w.alloc (.cells #[.string ⟨#[]⟩] 9)).alloc (.cells #[.string ⟨#[]⟩] 9)).alloc (.cells #[.int .i64 0] 3)).heap.size := by simp
  have Z0 := hide z0
  clear z0
  refine callsIn_of_wp_marks Tryd.func7 rfl trivial ?_ rfl
  simp only [Tryd.ntmps7, List.size_toArray, List.length_cons, List.length_nil, Nat.reduceAdd, Nat.reduceSub, Array.replicate_succ, Array.replicate_zero, List.push_toArray, List.append_toArray, List.nil_append, List.cons_append]
  gi_wp2_with fail
  generalize ((w.alloc (.cells #[.string ⟨#[]⟩] 9)).alloc (.cells #[.string ⟨#[]⟩] 9)).alloc (.cells #[.int .i64 0] 3) = w0 at *
  refine ⟨trivial, ?_⟩
  try refine ⟨hdd _, ?_⟩
  refine ((callsIn_wide (n := 4)).2 (unhide H1 w0)).mono ?_
  rintro e w9 ⟨rfl, hw⟩
  subst w9
  gi_wp2_with fail
  refine ⟨trivial, ?_⟩
  try refine ⟨hdd _, ?_⟩
  refine ((callsIn_wide (n := 4)).2 (unhide H2 w0 ((unhide HSA).below (unhide B0)))).mono ?_
  rintro e w9 ⟨rfl, hw⟩
  subst w9
  gi_wp2_with fail
  refine ⟨trivial, ?_⟩
  try refine ⟨hdd _, ?_⟩
  refine ((callsIn_wide (n := 4)).2 (unhide H3 w0)).mono ?_
  rintro e w9 ⟨rfl, hw⟩
  subst w9
  gi_wp2_with fail
  refine ⟨trivial, ?_⟩
  try refine ⟨hdd _, ?_⟩
  refine ((callsIn_wide (n := 4)).2 (unhide H4 w0 ((unhide HSB).below (unhide B0)))).mono ?_
  rintro e w9 ⟨rfl, hw⟩
  subst w9
  gi_wp2_with fail
  refine ⟨trivial, ?_⟩
  try refine ⟨hdd _, ?_⟩
  refine ((callsIn_wide (n := 4)).2 (unhide HW4 w0.heap.size (w0.alloc (.cells #[.int .i64 c1, .int .i64 c2, .int .i64 c3, .int .i64 c4] 3)) (by rw [World.cell?_alloc_at _ _ _ _ rfl]; rfl) (by rw [World.cell?_alloc_at _ _ _ _ rfl]; rfl) (by rw [World.cell?_alloc_at _ _ _ _ rfl]; rfl) (by rw [World.cell?_alloc_at _ _ _ _ rfl]; rfl))).mono ?_
  rintro e w9 ⟨rfl, hw⟩
  subst w9
  have X1 := hide ((unhide X0).below ((Below.refl w0.heap.size w0).alloc (Nat.le_refl _) (.cells #[.int .i64 c1, .int .i64 c2, .int .i64 c3, .int .i64 c4] 3)))
  have B1 := hide ((unhide B0).trans ((Below.refl w0.heap.size w0).alloc (Nat.le_refl _) (.cells #[.int .i64 c1, .int .i64 c2, .int .i64 c3, .int .i64 c4] 3) |>.mono (unhide B0).size))
  clear B0 X0 H1 H2 H3 H4 HW4 Z0
  generalize w0.alloc (.cells #[.int .i64 c1, .int .i64 c2, .int .i64 c3, .int .i64 c4] 3) = w1 at *
  rcases (show ¬ c = 0 ∨ c = 0 by omega) with hc | hc
  · rw [if_neg hc] at HO
    obtain ⟨c12, c13, c14, f12, f13, f14⟩ := (unhide X1).cells
    have HP := hide ((unhide X1).put (.string ⟨#[]⟩) (.string ⟨#[]⟩) (.int .i64 c))
    have HQ := hide (set3_below (unhide B1) (Nat.le_refl _) (.string ⟨#[]⟩) (.string ⟨#[]⟩) (.int .i64 c))
    gi_wp2_with fail
    obtain ⟨g12, g13, g14, _, _, _⟩ := (unhide HP).cells
    unfold set3 at g12 g13 g14
    refine ⟨colV (⟨#[]⟩, ⟨#[]⟩, c), ?_, by rw [unhide HO], unhide HQ⟩
    simp [results, Tryd.results7, go_sem, g12, g13, g14, colV]
  subst hc
  rw [if_pos rfl] at HO
  obtain ⟨m1, m2, m3, m4⟩ := unhide HM
  obtain ⟨l1, l2, l3, l4⟩ := unhide HLO
  have g1 : c1 = 0 := by omega
  have g2 : c2 = 0 := by omega
  have g3 : c3 = 0 := by omega
  have g4 : c4 = 0 := by omega
  clear m1 m2 m3 m4 l1 l2 l3 l4 HM HLO
  have hla := unhide HK1 g1
  have hlb := unhide HK3 g3
  have HAH := hide (unhide HKA g2)
  have HBH := hide (unhide HKB g4)
  subst g1 g2 g3 g4
  have e0 : mxI 0 0 = 0 := rfl
  rw [e0, if_pos rfl] at HEA HEB
  clear HKA HKB HK1 HK3 e0
  gi_wp2_with fail
  refine ⟨trivial, ?_⟩
  try refine ⟨hdd _, ?_⟩
  refine ((callsIn_wide (n := 4)).2 (unhide HRA w1 ((unhide HSA).below (unhide B1)) ((unhide HT).below (unhide B1)))).mono ?_
  rintro e w2 ⟨rfl, hb2⟩
  have B2 := hide ((unhide B1).trans (hb2.mono (unhide B1).size))
  have X2 := hide ((unhide X1).below hb2)
  clear hb2 HRA B1 X1
  gi_wp2_with fail
  refine ⟨trivial, ?_⟩
  try refine ⟨hdd _, ?_⟩
  refine ((callsIn_wide (n := 4)).2 (unhide HRB w2 ((unhide HSB).below (unhide B2)) ((unhide HT).below (unhide B2)))).mono ?_
  rintro e w3 ⟨rfl, hb3⟩
  have B3 := hide ((unhide B2).trans (hb3.mono (unhide B2).size))
  have X3 := hide ((unhide X2).below hb3)
  clear hb3 HRB B2 X2
  by_cases hin : inB n 1 64 = true ∧ inB p 0 (n - 1) = true
  case neg =>
    rw [if_neg hin] at HO HEA HEB
    have hra := unhide HEA
    have hrb := unhide HEB
    subst hra hrb
    dsimp only
    obtain ⟨c12, c13, c14, f12, f13, f14⟩ := (unhide X3).cells
    have HP := hide ((unhide X3).put (.string ⟨#[]⟩) (.string ⟨#[]⟩) (.int .i64 4))
    have HQ := hide (set3_below (unhide B3) (Nat.le_refl _) (.string ⟨#[]⟩) (.string ⟨#[]⟩) (.int .i64 4))
    gi_wp2_with fail
    obtain ⟨g12, g13, g14, _, _, _⟩ := (unhide HP).cells
    unfold set3 at g12 g13 g14
    refine ⟨colV (⟨#[]⟩, ⟨#[]⟩, 4), ?_, by rw [unhide HO], unhide HQ⟩
    simp [results, Tryd.results7, go_sem, g12, g13, g14, colV]
  obtain ⟨n0, n1⟩ := (unhide HN64).1 hin.1
  obtain ⟨p0, p1⟩ := (unhide HP64).1 hin.2
  rw [if_pos hin] at HO HEA HEB
  clear hin HN64 HP64
  obtain ⟨pn, rfl⟩ : ∃ q : Nat, p = (q : Int) := ⟨p.toNat, by omega⟩
  obtain ⟨nn, rfl⟩ : ∃ q : Nat, n = (q : Int) := ⟨n.toNat, by omega⟩
  rw [Int.toNat_natCast, Int.toNat_natCast] at HO HEA HEB
  have HY := hide (fun wx => wayUp_any nn pn wx (by omega) (by omega) (by omega))
  have hwl := way_len nn pn (by omega)
  generalize wayV pn nn = way at *
  by_cases hpa : pa.length = way.length
  case neg =>
    rw [if_neg (by rintro ⟨h, _⟩; exact hpa h)] at HO
    rw [if_neg hpa] at HEA
    have hra := unhide HEA
    subst hra
    dsimp only
    obtain ⟨c12, c13, c14, f12, f13, f14⟩ := (unhide X3).cells
    have HP := hide ((unhide X3).put (.string ⟨#[]⟩) (.string ⟨#[]⟩) (.int .i64 10))
    have HQ := hide (set3_below (unhide B3) (Nat.le_refl _) (.string ⟨#[]⟩) (.string ⟨#[]⟩) (.int .i64 10))
    gi_wp2_with fail
    obtain ⟨g12, g13, g14, _, _, _⟩ := (unhide HP).cells
    unfold set3 at g12 g13 g14
    refine ⟨colV (⟨#[]⟩, ⟨#[]⟩, 10), ?_, by rw [unhide HO], unhide HQ⟩
    simp [results, Tryd.results7, go_sem, g12, g13, g14, colV]
  rw [if_pos hpa] at HEA
  have hra := unhide HEA
  subst hra
  dsimp only
  by_cases hpb : pb.length = way.length
  case neg =>
    rw [if_neg (by rintro ⟨_, h⟩; exact hpb h)] at HO
    rw [if_neg hpb] at HEB
    have hrb := unhide HEB
    subst hrb
    dsimp only
    generalize (way.zip pa).foldl climbV la = fa at *
    obtain ⟨c12, c13, c14, f12, f13, f14⟩ := (unhide X3).cells
    have HP := hide ((unhide X3).put (.string ⟨#[]⟩) (.string ⟨#[]⟩) (.int .i64 10))
    have HQ := hide (set3_below (unhide B3) (Nat.le_refl _) (.string ⟨#[]⟩) (.string ⟨#[]⟩) (.int .i64 10))
    gi_wp2_with fail
    obtain ⟨g12, g13, g14, _, _, _⟩ := (unhide HP).cells
    unfold set3 at g12 g13 g14
    refine ⟨colV (⟨#[]⟩, ⟨#[]⟩, 10), ?_, by rw [unhide HO], unhide HQ⟩
    simp [results, Tryd.results7, go_sem, g12, g13, g14, colV]
  rw [if_pos hpb] at HEB
  have hrb := unhide HEB
  subst hrb
  dsimp only
  rw [if_pos ⟨hpa, hpb⟩] at HO
  by_cases hf : (way.zip pa).foldl climbV la = (way.zip pb).foldl climbV lb
  case neg =>
    rw [if_neg hf] at HO
    have hfb := textNe hf
    generalize (way.zip pa).foldl climbV la = fa at *
    generalize (way.zip pb).foldl climbV lb = fb at *
    obtain ⟨c12, c13, c14, f12, f13, f14⟩ := (unhide X3).cells
    have HP := hide ((unhide X3).put (.string ⟨#[]⟩) (.string ⟨#[]⟩) (.int .i64 11))
    have HQ := hide (set3_below (unhide B3) (Nat.le_refl _) (.string ⟨#[]⟩) (.string ⟨#[]⟩) (.int .i64 11))
    gi_wp2_with fail
    obtain ⟨g12, g13, g14, _, _, _⟩ := (unhide HP).cells
    unfold set3 at g12 g13 g14
    refine ⟨colV (⟨#[]⟩, ⟨#[]⟩, 11), ?_, by rw [unhide HO], unhide HQ⟩
    simp [results, Tryd.results7, go_sem, g12, g13, g14, colV]
  rw [if_pos hf] at HO
  have hfb := textEq hf
  have HSZA := hide (zip_size (way := way) (unhide HAH).2 hpa)
  have HSZB := hide (zip_size (way := way) (unhide HBH).2 hpb)
  have HPA := hide hpa
  have HPB := hide hpb
  have HZA : Hid ((way.zip pa).length = way.length) := hide (by simp; omega)
  have HZB : Hid ((way.zip pb).length = way.length) := hide (by simp; omega)
  have HIA : Hid ((inpL (way.zip pa) la).length = way.length) := hide (by rw [inpL_len]; exact unhide HZA)
  have HIB : Hid ((inpL (way.zip pb) lb).length = way.length) := hide (by rw [inpL_len]; exact unhide HZB)
  have HWL : Hid (way.length ≤ 63) := hide (by omega)
  have HPU := hide (And.intro hpa hpb)
  clear hpa hpb hf HEA HEB hwl
  generalize (way.zip pa).foldl climbV la = fa at *
  generalize (way.zip pb).foldl climbV lb = fb at *
  gi_wp2_with fail
  refine ⟨trivial, ?_⟩
  try refine ⟨hdd _, ?_⟩
  refine ((callsIn_wide (n := 4)).2 (unhide HY w3)).mono ?_
  rintro e w4 ⟨wv, rfl, hO4, hb4⟩
  have B4 := hide ((unhide B3).trans (hb4.mono (unhide B3).size))
  have X4 := hide ((unhide X3).below hb4)
  have O4 := hide hO4
  clear hb4 hO4 HY B3 X3
  gi_wp2_with fail
  refine ⟨trivial, ?_⟩
  try refine ⟨hdd _, ?_⟩
  refine ((callsIn_wide (n := 4)).2 (turnsOf_any wv way pb _ bb ob cb w4 (unhide O4) ((unhide HSB).below (unhide B4)) (by have := unhide HWL; omega) (Nat.le_of_eq (unhide HPB).symm))).mono ?_
  rintro e w5 ⟨tb, rfl, hO5, hb5⟩
  have B5 := hide ((unhide B4).trans (hb5.mono (unhide B4).size))
  have X5 := hide ((unhide X4).below hb5)
  have O5 := hide ((unhide O4).below hb5)
  have T5 := hide hO5
  have H5 := hide (unhide X5).2.2.lt
  clear hb5 hO5 B4 X4 O4
  gi_wp2_with fail
  refine ⟨trivial, ?_⟩
  try refine ⟨hdd _, ?_⟩
  refine ((callsIn_wide (n := 4)).2 (inputsUp_any tb (way.zip pb) lb _ w5 (unhide T5) (by rw [unhide HZB]; have := unhide HWL; omega) (unhide HSZB) hlb ((unhide HT).below (unhide B5)))).mono ?_
  rintro e w6 ⟨ub, rfl, hO6, hb6⟩
  have B6 := hide ((unhide B5).trans (hb6.mono (unhide B5).size))
  have X6 := hide ((unhide X5).below hb6)
  have O6 := hide ((unhide O5).below hb6)
  obtain ⟨gb, cpb, rfl⟩ := ownS_shp hO6
  have H6 := hide (unhide X6).2.2.lt
  have J6 := hide hO6
  clear hb6 hO6 B5 X5 O5 T5
  have B7 := hide ((unhide B6).trans (((Below.refl w6.heap.size w6).alloc (Nat.le_refl _) (.cells #[.slice gb (inpL (way.zip pb) lb).length cpb] 23)).mono (unhide B6).size))
  have X7 := hide ((unhide X6).below ((Below.refl w6.heap.size w6).alloc (Nat.le_refl _) (.cells #[.slice gb (inpL (way.zip pb) lb).length cpb] 23)))
  have O7 := hide ((unhide O6).below ((Below.refl w6.heap.size w6).alloc (Nat.le_refl _) (.cells #[.slice gb (inpL (way.zip pb) lb).length cpb] 23)))
  have J7 := hide ((unhide J6).below ((Below.refl w6.heap.size w6).alloc (Nat.le_refl _) (.cells #[.slice gb (inpL (way.zip pb) lb).length cpb] 23)))
  have I7 := hide (Boxed.new w6 23 (.slice gb (inpL (way.zip pb) lb).length cpb))
  generalize inpL (way.zip pb) lb = jb at *
  clear B6 X6 O6 J6
  gi_wp2_with fail
  generalize w6.alloc (.cells #[.slice gb jb.length cpb] 23) = w7 at *
  generalize w6.heap.size = BI at *
  refine ⟨trivial, ?_⟩
  try refine ⟨hdd _, ?_⟩
  refine ((callsIn_wide (n := 4)).2 (turnsOf_any wv way pa _ ba oa ca w7 (unhide O7) ((unhide HSA).below (unhide B7)) (by have := unhide HWL; omega) (Nat.le_of_eq (unhide HPA).symm))).mono ?_
  rintro e w8 ⟨tb2, rfl, hO8, hb8⟩
  have B8 := hide ((unhide B7).trans (hb8.mono (unhide B7).size))
  have X8 := hide ((unhide X7).below hb8)
  have J8 := hide ((unhide J7).below hb8)
  have I8 := hide (Boxed.blw (unhide I7) hb8)
  have T8 := hide hO8
  clear hb8 hO8 B7 X7 J7 I7 O7
  gi_wp2_with fail
  refine ⟨trivial, ?_⟩
  try refine ⟨hdd _, ?_⟩
  refine ((callsIn_wide (n := 4)).2 (inputsUp_any tb2 (way.zip pa) la _ w8 (unhide T8) (by rw [unhide HZA]; have := unhide HWL; omega) (unhide HSZA) hla ((unhide HT).below (unhide B8)))).mono ?_
  rintro e w9 ⟨ua, rfl, hO9, hb9⟩
  have B9 := hide ((unhide B8).trans (hb9.mono (unhide B8).size))
  have X9 := hide ((unhide X8).below hb9)
  have J9 := hide ((unhide J8).below hb9)
  have I9 := hide (Boxed.blw (unhide I8) hb9)
  obtain ⟨ga, cpa, rfl⟩ := ownS_shp hO9
  have K9 := hide hO9
  clear hb9 hO9 B8 X8 J8 I8 T8
  generalize inpL (way.zip pa) la = ja at *
  gi_wp2_with fail
  refine ⟨trivial, ?_⟩
  try refine ⟨hdd _, ?_⟩
  refine (backS_new 4 _ _ _ _).mono ?_
  rintro e w10 ⟨rfl, hw10⟩
  have hA10 := (Below.refl w9.heap.size w9).alloc (Nat.le_refl _) (.cells #[.slice ga ja.length cpa] 23)
  rw [← hw10] at hA10
  have B10 := hide ((unhide B9).trans (hA10.mono (unhide B9).size))
  have X10 := hide ((unhide X9).below hA10)
  have J10 := hide ((unhide J9).below hA10)
  have K10 := hide ((unhide K9).below hA10)
  have I10 := hide (Boxed.blw (unhide I9) hA10)
  have A10 : Hid (Boxed w10 w9.heap.size 23 (.slice ga ja.length cpa)) := hide (by rw [hw10]; exact Boxed.new w9 _ _)
  clear hA10 hw10 B9 X9 J9 K9 I9
  generalize w9.heap.size = BA at *
  gi_wp2_with fail
  have hBx := (unhide X10).2.2.lt
  have hBI := (unhide I10).lt
  have hBA := (unhide A10).lt
  have hjl : ja.length ≤ 1048576 := by have := unhide HIA; have := unhide HWL; omega
  have hjb : jb.length = ja.length := (unhide HIB).trans (unhide HIA).symm
  have HJB := hide hjb
  clear hjb
  refine wpIn_rangeFunc_ownG rfl (by omega) (gf := 46) (lb := #[.pointer (some ⟨BA, 0, none⟩)]) rfl trivial (enters_of Tryd.func46 (by kernel_rfl) rfl)
    (backS_stops 4 BA _ ga cpa ja hjl w10 hBA (unhide A10).cell (unhide K10)) belowK_t (belowK_b (Nat.le_refl _)) (Below.refl _ _) (fun _ => rfl)
    (fun pre W => (∀ x ∈ pre, x.1.2 = jb.getD x.1.1 ByteArray.empty) ∧ Below w10.heap.size w10 W)
    (fun cd pre W => ((cd = .ret ∧ ∃ p x, pre = p ++ [x] ∧ (∀ y ∈ p, y.1.2 = jb.getD y.1.1 ByteArray.empty) ∧ x.1.2 ≠ jb.getD x.1.1 ByteArray.empty) ∧ (Boxed W w.heap.size 9 (.string (lstT pre)) ∧ Boxed W (w.heap.size + 1) 9 (.string (jb.getD (lstI pre) ByteArray.empty)) ∧ Boxed W (w.heap.size + 1 + 1) 3 (.int .i64 0))) ∧ Below w.heap.size w W)
    (OwnFrom.and (ownFrom_pure _ _) (ownFrom_below (Nat.le_refl _) (Nat.le_refl _)))
    (fun cd => OwnFrom.and (OwnFrom.and (ownFrom_pure _ _) (OwnFrom.and (Own.from (boxed_own _ _ _) _) (OwnFrom.and (Own.from (boxed_own _ _ _) _) (Own.from (boxed_own _ _ _) _)))) (ownFrom_below (Nat.le_refl _) (unhide B10).size))
    ⟨by simp, Below.refl _ _⟩
    (fun x => { tmps := #[.int .i64 (pn : Int), .int .i64 (nn : Int), .string la, .slice (some ⟨ba, oa, none⟩) pa.length ca, .string lb, .slice (some ⟨bb, ob, none⟩) pb.length cb, undef, undef, undef, undef, undef, undef, .pointer (some ⟨w.heap.size, 0, none⟩), .pointer (some ⟨w.heap.size + 1, 0, none⟩), .pointer (some ⟨w.heap.size + 1 + 1, 0, none⟩), .int .i64 0, .string fa, .int .i64 0, .string fb, .int .i64 0, wv, .pointer (some ⟨BI, 0, none⟩), .int .i64 (x.1.1 : Int), .string x.1.2, .string la, .int .i64 0, .slice (some ⟨ba, oa, none⟩) pa.length ca, .int .i64 0, .string lb, .int .i64 0, .slice (some ⟨bb, ob, none⟩) pb.length cb, .int .i64 0, .slice (some ⟨w0.heap.size, 0, none⟩) 4 4, .int .i64 0, .int .i64 0, .bool false, undef, .tuple #[.string fa, .int .i64 0], .string la, .int .i64 (pn : Int), .int .i64 (nn : Int), .slice (some ⟨ba, oa, none⟩) pa.length ca, .tuple #[.string fa, .int .i64 0], .string fa, .int .i64 0, .tuple #[.string fb, .int .i64 0], .string lb, .int .i64 (pn : Int), .int .i64 (nn : Int), .slice (some ⟨bb, ob, none⟩) pb.length cb, .tuple #[.string fb, .int .i64 0], .string fb, .int .i64 0, .bool false, .int .i64 0, .bool false, undef, .bool false, .int .i64 0, .bool false, undef, .bool false, .string fa, .string fb, .bool false, .int .i64 (pn : Int), .int .i64 (nn : Int), wv, .string lb, wv, .slice (some ⟨bb, ob, none⟩) pb.length cb, tb, .slice gb jb.length cpb, .string la, wv, .slice (some ⟨ba, oa, none⟩) pa.length ca, tb2, .slice ga ja.length cpa, .func (.func 46) #[] #[.pointer (some ⟨BA, 0, none⟩)], .int .i64 (x.1.1 : Int), .string x.1.2, undef, undef, undef, undef, undef, undef, undef, undef, undef, undef, undef], defers := [] }) ?assign ?body ?done ?stop
  case assign =>
    intro l x W K hK
    simp only [taV, List.zip_toArray, List.zip_cons_cons, List.zip_nil_left, List.zip_nil_right, List.foldl_toArray, List.foldl_cons, List.foldl_nil, List.setIfInBounds_toArray, List.set_cons_succ, List.set_cons_zero]
    gi_wp2
    exact hK
  case body =>
    rintro l pre x W ⟨hp, hb⟩ hlt
    obtain ⟨⟨i, s⟩, hi⟩ := x
    dsimp only at hi ⊢
    have hX := (unhide X10).below hb
    have hI := Boxed.blw (unhide I10) hb
    have hJ := (unhide J10).below hb
    obtain ⟨gB, rfl, hgB, d0⟩ := ownS_at hJ i (by rw [unhide HJB]; exact hi)
    have cI := hI.cell
    have hg5 := (hJ.lt gB rfl).1
    have hn1 : gB ≠ w.heap.size := by have := unhide H5; omega
    have hn2 : BI ≠ w.heap.size := by have := unhide H6; omega
    obtain ⟨c12, c13, c14, f12, f13, f14⟩ := hX.cells
    have k0 : (0 : Int) ≤ (i : Int) := by omega
    have k1 : (i : Int) < (jb.length : Int) := by have := unhide HJB; omega
    have HB := hide hb
    have HP := hide hp
    have HX := hide hX
    by_cases hs : s = jb.getD i ByteArray.empty
    · have hsb := textEq hs
      have HS := hide hs
      have hpp : Hid (∀ x ∈ pre ++ [(⟨(i, s), hi⟩ : TA ja.length)], x.1.2 = jb.getD x.1.1 ByteArray.empty) := hide (fun y hy => (List.mem_append.1 hy).elim (hp y) (fun e => by simp at e; subst e; exact hs))
      clear hp hb hX hI hJ hs
      generalize jb.getD i ByteArray.empty = s2 at *
      gi_wp2
      exact ⟨KeepsFrom.refl _ _, Below.refl _ _, unhide hpp, unhide HB⟩
    · have hsb := textNe hs
      have HS := hide hs
      have HEND : Hid (KeepsFrom w10.heap.size W (set3 W w.heap.size (.string s) (.string (jb.getD i ByteArray.empty)) (.int .i64 0)).drew ∧ Bx3 (set3 W w.heap.size (.string s) (.string (jb.getD i ByteArray.empty)) (.int .i64 0)).drew w.heap.size (.string s) (.string (jb.getD i ByteArray.empty)) (.int .i64 0) ∧ Below w.heap.size w (set3 W w.heap.size (.string s) (.string (jb.getD i ByteArray.empty)) (.int .i64 0)).drew) := hide (by
        refine ⟨((set3_keeps _ _ _ _ _).trans (KeepsOthers.drew _)).from _, Bx3.put (W := W) hX _ _ _, (set3_below ?_ (Nat.le_refl _) _ _ _).drew⟩
        exact (unhide B10).trans (hb.mono (unhide B10).size))
      have r1 : (W.setCell ⟨w.heap.size, 0, none⟩ (.string s)).cell? ⟨gB, i, none⟩ = some (.string (jb.getD i ByteArray.empty)) := by
        rw [World.cell?_setCell_other W _ _ _ (fun h => hn1 (congrArg Addr.block h).symm)]; exact d0
      have r2 : (W.setCell ⟨w.heap.size, 0, none⟩ (.string s)).cell? ⟨BI, 0, none⟩ = some (.slice (some ⟨gB, 0, none⟩) jb.length cpb) := by
        rw [World.cell?_setCell_other W _ _ _ (fun h => hn2 (congrArg Addr.block h).symm)]; exact cI
      have HNN := hide (And.intro hn1 hn2)
      clear hn1 hn2 hg5
      clear hp hb hX hI hJ hs
      generalize hs2 : jb.getD i ByteArray.empty = s2 at *
      have HS2 := hide hs2
      clear hs2
      gi_wp2
      refine wpIn_region_any (by kernel_rfl) ?_
      refine wpAnyIn_round (F := Fence.wide) rfl (by kernel_rfl) _ _ _ _ ?_
      change wpAnyIn _ _ _ _ _ _ _ _ _ (World.drew _)
      refine wpAnyIn_take (i := 0) (v := .string s) rfl rfl (by kernel_rfl) (by kernel_rfl) (by kernel_rfl) (fun _ _ _ h => h) ⟨Or.inl ⟨by rfl, ?_⟩, fun _ => rfl⟩ ?_
      · intro w
        go_simp
      refine wpAnyIn_take (i := 2) (v := .int .i64 (i : Int)) rfl rfl (by kernel_rfl) (by kernel_rfl) (by kernel_rfl) (fun _ _ _ h => h) ⟨Or.inl ⟨by rfl, ?_⟩, fun _ => rfl⟩ ?_
      · intro w
        go_simp
      refine wpAnyIn_ready (rs := [1, 5]) (by kernel_rfl) (by simp) ?_
      refine AllReadyIn.cons rfl (fun K hK => ?_) ?_
      · go_simp
        refine hK _ _ ?_
        clear hK K
        refine wpAnyIn_take (i := 3) (v := .pointer (some ⟨gB, i, none⟩)) rfl rfl (by kernel_rfl) (by kernel_rfl) (by kernel_rfl) (fun _ _ _ h => h) ⟨Or.inl ⟨by rfl, ?_⟩, fun _ => rfl⟩ ?_
        · intro w
          go_simp
        refine wpAnyIn_ready (rs := [4, 5]) (by kernel_rfl) (by simp) ?_
        refine AllReadyIn.cons rfl (fun K hK => ?_) ?_
        · go_simp
          refine hK _ _ ?_
          clear hK K
          refine wpAnyIn_ready (rs := [5]) (by kernel_rfl) (by simp) ?_
          refine AllReadyIn.cons rfl (fun K hK => ?_) AllReadyIn.nil
          go_simp
          refine hK _ _ ?_
          clear hK K
          refine wpAnyIn_ready (rs := [6]) (by kernel_rfl) (by simp) ?_
          refine AllReadyIn.cons rfl (fun K hK => ?_) AllReadyIn.nil
          go_simp
          refine hK _ _ ?_
          clear hK K
          refine wpAnyIn_ready (rs := [7]) (by kernel_rfl) (by simp) ?_
          refine AllReadyIn.cons rfl (fun K hK => ?_) AllReadyIn.nil
          go_simp
          refine hK _ _ ?_
          clear hK K
          refine wpAnyIn_done (by kernel_rfl) ?_ _
          gi_wp2
          have hs2 := unhide HS2
          subst hs2
          obtain ⟨hend1, hend2, hend3⟩ := unhide HEND
          refine ⟨hend1, ⟨⟨rfl, pre, _, rfl, unhide HP, unhide HS⟩, ?_⟩, hend3⟩
          rw [lstT_app, lstI_app]
          exact hend2
        refine AllReadyIn.cons rfl (fun K hK => ?_) AllReadyIn.nil
        go_simp
        refine hK _ _ ?_
        clear hK K
        refine wpAnyIn_ready (rs := [4]) (by kernel_rfl) (by simp) ?_
        refine AllReadyIn.cons rfl (fun K hK => ?_) AllReadyIn.nil
        go_simp
        refine hK _ _ ?_
        clear hK K
        refine wpAnyIn_ready (rs := [6]) (by kernel_rfl) (by simp) ?_
        refine AllReadyIn.cons rfl (fun K hK => ?_) AllReadyIn.nil
        go_simp
        refine hK _ _ ?_
        clear hK K
        refine wpAnyIn_ready (rs := [7]) (by kernel_rfl) (by simp) ?_
        refine AllReadyIn.cons rfl (fun K hK => ?_) AllReadyIn.nil
        go_simp
        refine hK _ _ ?_
        clear hK K
        refine wpAnyIn_done (by kernel_rfl) ?_ _
        gi_wp2
        have hs2 := unhide HS2
        subst hs2
        obtain ⟨hend1, hend2, hend3⟩ := unhide HEND
        refine ⟨hend1, ⟨⟨rfl, pre, _, rfl, unhide HP, unhide HS⟩, ?_⟩, hend3⟩
        rw [lstT_app, lstI_app]
        exact hend2
      refine AllReadyIn.cons rfl (fun K hK => ?_) AllReadyIn.nil
      go_simp
      refine hK _ _ ?_
      clear hK K
      refine wpAnyIn_ready (rs := [1]) (by kernel_rfl) (by simp) ?_
      refine AllReadyIn.cons rfl (fun K hK => ?_) AllReadyIn.nil
      go_simp
      refine hK _ _ ?_
      clear hK K
      refine wpAnyIn_take (i := 3) (v := .pointer (some ⟨gB, i, none⟩)) rfl rfl (by kernel_rfl) (by kernel_rfl) (by kernel_rfl) (fun _ _ _ h => h) ⟨Or.inl ⟨by rfl, ?_⟩, fun _ => rfl⟩ ?_
      · intro w
        go_simp
      refine wpAnyIn_ready (rs := [4]) (by kernel_rfl) (by simp) ?_
      refine AllReadyIn.cons rfl (fun K hK => ?_) AllReadyIn.nil
      go_simp
      refine hK _ _ ?_
      clear hK K
      refine wpAnyIn_ready (rs := [6]) (by kernel_rfl) (by simp) ?_
      refine AllReadyIn.cons rfl (fun K hK => ?_) AllReadyIn.nil
      go_simp
      refine hK _ _ ?_
      clear hK K
      refine wpAnyIn_ready (rs := [7]) (by kernel_rfl) (by simp) ?_
      refine AllReadyIn.cons rfl (fun K hK => ?_) AllReadyIn.nil
      go_simp
      refine hK _ _ ?_
      clear hK K
      refine wpAnyIn_done (by kernel_rfl) ?_ _
      gi_wp2
      have hs2 := unhide HS2
      subst hs2
      obtain ⟨hend1, hend2, hend3⟩ := unhide HEND
      refine ⟨hend1, ⟨⟨rfl, pre, _, rfl, unhide HP, unhide HS⟩, ?_⟩, hend3⟩
      rw [lstT_app, lstI_app]
      exact hend2
  case done =>
    rintro D ys W hD rfl ⟨hp, hb⟩ hK
    have hX := (unhide X10).below hb
    have HFD : Hid (fdA ja jb ja.length = (⟨#[]⟩, ⟨#[]⟩, 5)) := hide (by rw [fd_none ja jb ja.length (Nat.le_refl _) hp, Nat.sub_self]; rfl)
    have hB1 := (unhide B10).trans (hb.mono (unhide B10).size)
    obtain ⟨c12, c13, c14, f12, f13, f14⟩ := hX.cells
    have HP := hide (hX.put (.string ⟨#[]⟩) (.string ⟨#[]⟩) (.int .i64 5))
    have HQ := hide (set3_below hB1 (Nat.le_refl _) (.string ⟨#[]⟩) (.string ⟨#[]⟩) (.int .i64 5))
    have HK3 := hide ((set3_keeps W w.heap.size (.string ⟨#[]⟩) (.string ⟨#[]⟩) (.int .i64 5)).same D _ hK rfl)
    clear hp hb hB1 hX
    gi_wp2
    have hK3 := unhide HK3
    refine ⟨by simp, .inl ⟨_, _, rfl, run_takeDeferred hK3, ?_⟩⟩
    obtain ⟨g12, g13, g14, _, _, _⟩ := (unhide HP).cells
    have hc12 := cell_kept g12 (grownBy_putObj' _ D (.deferred none)) (fun r e => by cases e; exact ⟨_, hK3, rfl⟩)
    have hc13 := cell_kept g13 (grownBy_putObj' _ D (.deferred none)) (fun r e => by cases e; exact ⟨_, hK3, rfl⟩)
    have hc14 := cell_kept g14 (grownBy_putObj' _ D (.deferred none)) (fun r e => by cases e; exact ⟨_, hK3, rfl⟩)
    unfold set3 at hc12 hc13 hc14
    refine ⟨colV (⟨#[]⟩, ⟨#[]⟩, 5), ?_, ?_, (unhide HQ).trans (belowK_b (w := w) (Nat.le_refl _) _ D _ _ (by omega) hK3 rfl rfl)⟩
    · simp [results, Tryd.results7, go_sem, hc12, hc13, hc14, colV]
    · rw [unhide HO, ← unhide HIA, unhide HFD]
  case stop =>
    rintro D cd pre W hD ⟨k, hk, hpre⟩ ⟨⟨⟨rfl, p, x, hpx, hp, hx2⟩, b12, b13, b14⟩, hB1⟩ hK
    have HM : Hid (fdA ja jb ja.length = (lstT pre, jb.getD (lstI pre) ByteArray.empty, 0)) := hide (by
      have hlen := congrArg List.length (hpre.symm.trans hpx)
      rw [twd_len, List.length_append] at hlen
      simp only [List.length_cons, List.length_nil] at hlen
      obtain rfl : k = p.length + 1 := by omega
      have heq := hpre.symm.trans hpx
      obtain ⟨e1, e2⟩ := List.append_inj' (show twd ja p.length (by omega) ++ [tel ja p.length (by omega)] = p ++ [x] from heq) rfl
      simp only [List.cons.injEq, and_true] at e2
      rw [hpx, lstT_app, lstI_app, ← e2]
      rw [← e2] at hx2
      exact fd_found ja jb p.length hk (fun y hy => hp y (by rw [← e1]; exact hy)) hx2)
    clear hp hx2 hpx hpre
    generalize lstT pre = rx at *
    generalize jb.getD (lstI pre) ByteArray.empty = ry at *
    have HBX := hide (And.intro b12 (And.intro b13 b14))
    have HB1 := hide hB1
    clear b12 b13 b14 hB1
    gi_wp2
    refine ⟨by simp, .inl ⟨_, _, rfl, run_takeDeferred hK, ?_⟩⟩
    obtain ⟨b12, b13, b14⟩ := unhide HBX
    have hc12 := cell_kept b12.cell (grownBy_putObj' _ D (.deferred none)) (fun r e => by cases e; exact ⟨_, hK, rfl⟩)
    have hc13 := cell_kept b13.cell (grownBy_putObj' _ D (.deferred none)) (fun r e => by cases e; exact ⟨_, hK, rfl⟩)
    have hc14 := cell_kept b14.cell (grownBy_putObj' _ D (.deferred none)) (fun r e => by cases e; exact ⟨_, hK, rfl⟩)
    refine ⟨colV (rx, ry, 0), ?_, ?_, (unhide HB1).trans (belowK_b (w := w) (Nat.le_refl _) W D _ _ (by omega) hK rfl rfl)⟩
    · simp [results, Tryd.results7, go_sem, hc12, hc13, hc14, colV]
    · rw [unhide HO, ← unhide HIA, unhide HM]
end Go.Proofs.YtcaadcdjipdjeaaDoor.Sha
