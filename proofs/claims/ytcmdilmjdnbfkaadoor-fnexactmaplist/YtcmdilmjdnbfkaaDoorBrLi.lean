/- impl.MapList. -/
import Derived.RangeFuncWrites
import Derived.Maps.AppendAt
import Derived.Test.YtcmdilmjdnbfkaaDoorBrLl
namespace Go.Proofs.YtcmdilmjdnbfkaaDoor.Sha
open Go.ChangeShapes Go.WideShapes Go.ChangeAt Go.RowKit Go.Shelf
set_option linter.unusedVariables false
set_option linter.unusedSimpArgs false
attribute [local go_sem] Oper.semAt_some

/-- The command that puts a leaf. -/
def lfCm {w0 : World} {n₀ : Nat} (x : LfA w0 n₀) : Cm := ⟨1, 0, 0, x.1.2.1, x.1.2.2⟩
theorem ptr_lo {w : World} {S : Nat → Prop} {pv : Option Addr} {o : Option Tr} (h : PtrM w S pv o) (ho : OkO o) : ∃ T : Option (LT w w.heap.size), IsLO w pv T ∧ (LO.list T).map lfCm = cmsO o := by
  cases o with
  | none => exact ⟨none, h, rfl⟩
  | some t =>
    obtain ⟨p, h1, h2⟩ := h
    obtain ⟨T, h3, h4⟩ := lt_of_nd h2 ho
    refine ⟨some T, ⟨p, h1, h3⟩, ?_⟩
    show T.list.map lfCm = t.cms
    rw [Tr.cms, ← h4, List.map_map]
    rfl
/-- No operation defers. -/
def noDefer (ops : Array Oper) : Bool := ops.all fun o => match o.op with | .defer _ => false | _ => true
theorem noDefer_spec {ops : Array Oper} (h : noDefer ops = true) {i : Nat} {o : Oper} (ho : ops[i]? = some o) : ∀ c, o.op ≠ .defer c := by
  intro c e
  have hm := Array.mem_of_getElem? ho
  have := (Array.all_eq_true_iff_forall_mem.1 h) o hm
  rw [e] at this
  cases this
/-- A region that draws its order, and no operation of which defers, goes in a round as it goes without one. -/
theorem wpAnyIn_round {F : Fence} {n : Nat} {P : Program} {md : Region.Mode} {ops : Array Oper} {Q : Exit → Act → World → Prop} {l : Nat} (hF : F.round = none) (hd : noDefer ops = true) :
    ∀ (fuel : Nat) (listed : Array Bool) (a : Act) (w : World), wpAnyIn F n P md ops Q fuel listed a w → wpAnyIn (F.inRound l) n P md ops Q fuel listed a w := by
  intro fuel
  induction fuel with
  | zero => intro listed a w h; exact h
  | succ fuel ih =>
    intro listed a w h
    refine ⟨h.1, fun i hi => ?_⟩
    have h3 := wpOpIn_mono (fun a w hh => ih _ a w hh) (h.2 i hi)
    unfold wpOpIn at h3 ⊢
    cases ho : ops[i]? with
    | none => simpa [ho] using h3
    | some o =>
      simp only [ho] at h3 ⊢
      by_cases hw : Region.wanted o (yielded ops a.tmps) = true
      · simp only [hw, if_true] at h3 ⊢
        unfold Oper.wpIn at h3 ⊢
        refine ⟨h3.1, ?_⟩
        have h4 := h3.2
        rw [Oper.semAt_eq _ _ _ (noDefer_spec hd ho)] at h4 ⊢
        generalize (execOp a.eval o).run P w = r at *
        cases r with
        | ok x w' => cases x <;> exact h4
        | halt x w' => cases x <;> exact h4
      · simp only [hw, Bool.false_eq_true, if_false] at h3 ⊢
        exact h3
theorem stepIn_append_row {F : Fence} {nF : Nat} {P : Program} {w : World} {ops : Array Oper} {o : Oper} {a : Act} {K : Act → World → Prop} {Q : Exit → Act → World → Prop} {E : Prop} (hgd : o.guard = none) (s x : Operand) (t : TypeId)
    (ho : o.op = .call { callee := .builtin .append, args := #[s, x], argTypes := #[t, t] })
    (base : Nat) (e : TypeId) (i : TypeInfo) (z : Value) (size bytes : Nat) (ht : P.underlying t = some (.slice e)) (hi : P.info? e = some i) (hz : i.zero = some z) (hsize : i.size = size) (hby : i.bytes = bytes) (hzs : z.cells.size = size) (hsz : 0 < size)
    (v : Value) (n : Nat) (xs : List Value) (hs : a.eval s = v) (hown : w.ownsRow base e size v n xs) (xv : Value) (m : Nat) (news : List Value) (hx : a.eval x = xv) (hR : Rw w xv m news) (hl : news.length = m * size) (h1 : ∀ u ∈ news, u.oneCell' = true) (h63 : n + m ≤ maxLen) (hb : (n + m) * bytes ≤ 140737488355328) (hbase : base ≤ w.heap.size)
    (h : ∀ a' c' w', w'.ownsRow base e size (.slice a' (n + m) c') (n + m) (xs ++ news) → w.grownBy w' v.ownBlock → ((Value.slice a' (n + m) c').ownBlock = v.ownBlock ∨ (Value.slice a' (n + m) c').ownBlock = some w.heap.size) → K (a.put o.dst (.slice a' (n + m) c')) w') :
    if Region.wanted o (yielded ops a.tmps) = true then Oper.wpIn F nF P o a w K Q else E := by
  have hw : Region.wanted o (yielded ops a.tmps) = true := by simp [Region.wanted, hgd]
  rw [if_pos hw]
  obtain ⟨a', c', w', hr, h2, h3, h4⟩ := run_append_row (P := P) w base t o.type e i z size bytes ht hi hz hsize hby hzs hsz v n xs hown xv m news hR hl h1 h63 hb hbase
  unfold Oper.wpIn
  refine ⟨?_, ?_⟩
  · simp [Oper.about, ho, resolve, Target.leads, Sem.run_pure]
  · rw [Oper.semAt_plain F _ _ (by rw [ho]; intro c hc'; cases hc')]
    simp [execOp, ho, resolve, invoke, builtin, hs, hx, hr, Result.andThen]
    exact h a' c' w' h2 h3 h4
set_option maxRecDepth 100000 in
set_option maxHeartbeats 4000000 in
theorem implMapList_any (k v : ByteArray) (a : Int) (ks : List Br) (S : Nat → Prop) (kv : Value) (w : World) (hB : Brs S w kv ks) (hk : k.size ≤ maxLen) (hv : v.size ≤ maxLen) (ht : Tab w) :
    Calls Tryd.prog 28 #[.agg #[.string k, .string v, .int .i64 a, kv]] w fun e w' => ∃ u, e = .returned (.tuple #[u, .int .i64 (mlOut (.mk k v a ks)).2]) ∧ OwnC w.heap.size w' u (mlOut (.mk k v a ks)).1 ∧ Below w.heap.size w w' := by
  refine (callsIn_wide (n := 4)).1 ?_
  obtain ⟨sa, cap, rfl, hcap, hcm⟩ := hB.shape
  have hdd : ∀ k : Nat, (Fence.wide.depth.isSome = true → 1 ≤ k) := fun k h => by cases h
  have B0 := (Below.refl w.heap.size w).alloc (Nat.le_refl _) (.cells #[.string k, .string v, .int .i64 a, .slice sa ks.length cap] 37)
  have HR := (callsIn_wide (n := 3)).2 (readMap_any k v a ks S _ _ (hB.blw B0) hk hv (ht.below B0))
  have HMB := mapB_V (.mk k v a ks)
  have HBR := fun o => mapV_br (b := .mk k v a ks) (o := o)
  have HSE := fun o => mapV_sep (b := .mk k v a ks) (o := o)
  have hO : mlOut (.mk k v a ks) = match mapV (.mk k v a ks) with | none => ([], 1) | some o => (cmsO o, 0) := rfl
  unfold ReadR at HR
  rw [HMB] at HR
  rw [hO]
  clear hB hk hv ht hO HMB
  obtain ⟨i0, hi, hz0, hz1, hz2⟩ := info_parts infoCm
  cases hmv : mapV (.mk k v a ks) with
  | none =>
    rw [hmv] at HR
    dsimp only [Option.isSome] at HR ⊢
    clear HBR HSE
    refine callsIn_of_wp_marks Tryd.func28 rfl trivial ?_ rfl
    simp only [Tryd.ntmps28, List.size_toArray, List.length_cons, List.length_nil, Nat.reduceAdd, Nat.reduceSub, Array.replicate_succ, Array.replicate_zero, List.push_toArray, List.append_toArray, List.nil_append, List.cons_append]
    gi_wp2_with (refine ⟨trivial, ?_⟩; (try refine ⟨hdd _, ?_⟩); gi_at_call 69; refine HR.mono ?_; clear HR; rintro e w2 ⟨pv, rfl, hb, rfl⟩)
    have hw := hb.size
    rw [World.size_alloc] at hw
    exact ⟨_, results_tmp2 rfl _ _ _, _, rfl, OwnC.nil _ _, B0.trans (hb.mono B0.size)⟩
  | some o =>
    have ho := (HBR o hmv).2
    have hs := HSE o hmv
    rw [hmv] at HR
    dsimp only [Option.isSome] at HR ⊢
    clear HBR HSE
    refine callsIn_of_wp_marks Tryd.func28 rfl trivial ?_ rfl
    simp only [Tryd.ntmps28, List.size_toArray, List.length_cons, List.length_nil, Nat.reduceAdd, Nat.reduceSub, Array.replicate_succ, Array.replicate_zero, List.push_toArray, List.append_toArray, List.nil_append, List.cons_append]
    gi_wp2_with (first
      | (refine ⟨trivial, ?_⟩; (try refine ⟨hdd _, ?_⟩); gi_at_call 70; refine (leaves_in 3 _ _).mono ?_; rintro e w' ⟨rfl, rfl⟩)
      | (refine ⟨trivial, ?_⟩; (try refine ⟨hdd _, ?_⟩); gi_at_call 69; refine HR.mono ?_; clear HR; rintro e w2 ⟨pv, rfl, hb, hpm⟩))
    obtain ⟨T, hT, hTl⟩ := ptr_lo hpm ho
    have hN : (LO.list T).length ≤ 40 := by have h1 := cap_le o hs; rw [← hTl, List.length_map] at h1; exact h1
    have bL := Boxed.new w2 46 (.slice none 0 0)
    have bP := Boxed.new (w2.alloc (.cells #[.slice none 0 0] 46)) 70 (.pointer pv)
    rw [World.size_alloc] at bP
    have hB0 : Below w2.heap.size w2 ((w2.alloc (.cells #[.slice none 0 0] 46)).alloc (.cells #[.pointer pv] 70)) := ((Below.refl _ w2).alloc (Nat.le_refl _) _).alloc (by simp) _
    refine wpIn_rangeFunc_ownG rfl (by omega) (gf := 91) (lb := #[.pointer (some ⟨w2.heap.size + 1, 0, none⟩)]) rfl trivial (enters_of Tryd.func91 (by kernel_rfl) rfl)
      (leaves_stops 3 (w2.heap.size + 1) pv T _ (by simp) (by simp; omega) bP.cell (hT.below hB0)) belowK_t (belowK_b (by simp; omega)) (Below.refl _ _) (fun _ => rfl)
      (fun (pre : List (LfA w2 w2.heap.size)) W => (∃ v, Boxed W w2.heap.size 46 v ∧ W.ownsRow w2.heap.size 94 5 v pre.length (csC (pre.map lfCm)) ∧ True) ∧ Below w2.heap.size w2 W)
      (fun _ _ _ => False)
      (OwnFrom.and (Own.from (holdsRow_own w2.heap.size w2.heap.size 46 94 5 (fun (pre : List (LfA w2 w2.heap.size)) => pre.length) (fun pre => csC (pre.map lfCm)) (fun _ _ => True)) _) (ownFrom_below (Nat.le_refl _) (by simp; omega)))
      (fun _ _ _ _ _ hs _ _ => hs)
      ⟨⟨_, bL.alloc _, World.ownsRow_nil _ _ _ _, trivial⟩, hB0⟩
      (fun (x : LfA w2 w2.heap.size) => { tmps := #[.agg #[.string k, .string v, .int .i64 a, .slice sa ks.length cap], .pointer (some ⟨w.heap.size, 0, none⟩), .slice none 0 0, .int .i64 0, .pointer pv, .bool true, .pointer (some ⟨w2.heap.size, 0, none⟩), .pointer (some ⟨x.1.1, 0, none⟩), .tuple #[.pointer pv, .bool true], .agg #[.string k, .string v, .int .i64 a, .slice sa ks.length cap], .tuple #[.pointer pv, .bool true], .pointer pv, .bool true, .bool true, .bool false, .pointer pv, .func (.func 91) #[] #[.pointer (some ⟨w2.heap.size + 1, 0, none⟩)], .pointer (some ⟨x.1.1, 0, none⟩), undef, undef, undef, undef, undef, undef, undef, undef, undef, undef, undef, undef, undef], defers := [] }) ?assign ?body ?done ?stop
    case assign =>
      intro l x W K hK
      gi_wp2
      exact hK
    case body =>
      rintro l pre x W ⟨⟨v, hv, hrow, _⟩, hB⟩ hlt
      have hc := hv.cell
      have hx0 := x.2.1
      have hx1 := (hB.cell (p := ⟨x.1.1, 0, none⟩) hx0).trans x.2.2.1
      have hx2 := (hB.cell (p := ⟨x.1.1, 1, none⟩) hx0).trans x.2.2.2
      have hn : pre.length + 1 ≤ 1000 := by omega
      have hWs := hB.size
      obtain ⟨⟨xb, xk, xv⟩, hxx⟩ := x
      dsimp only at hx1 hx2 hx0 ⊢
      have hvd : Boxed W.drew w2.heap.size 46 v := hv
      have hrowd : W.drew.ownsRow w2.heap.size 94 5 v pre.length (csC (pre.map lfCm)) := own_kept (T := fun _ => False) hrow (Touch.refl _ W).drew (fun _ _ h => h)
      have hO4 : Hid ((W.drew.alloc (.cells #[.int .i64 1, .int .i64 0, .int .i64 0, .string xk, .string xv] 94)).ownsRow w2.heap.size 94 5 v pre.length (csC (pre.map lfCm))) := hide (hrowd.alloc _)
      have HRW := hide (cm_rw W.drew ⟨1, 0, 0, xk, xv⟩ 94)
      have H1C : Hid (∀ u ∈ cmC ⟨1, 0, 0, xk, xv⟩, u.oneCell' = true) := hide (by simp [cmC, Value.oneCell'])
      have hBs : w2.heap.size ≤ (W.drew.alloc (.cells #[.int .i64 1, .int .i64 0, .int .i64 0, .string xk, .string xv] 94)).heap.size := by rw [World.size_alloc]; exact Nat.le_trans hWs (Nat.le_succ _)
      have HFIN : Hid (∀ (g6 c6 : Nat) (w6 : World), w6.ownsRow w2.heap.size 94 5 (.slice (some ⟨g6, 0, none⟩) (pre.length + 1) c6) (pre.length + 1) (csC (pre.map lfCm) ++ cmC ⟨1, 0, 0, xk, xv⟩) → (W.drew.alloc (.cells #[.int .i64 1, .int .i64 0, .int .i64 0, .string xk, .string xv] 94)).grownBy w6 v.ownBlock →
          (w6.cell? ⟨w2.heap.size, 0, none⟩ = some v ∧ w6.frozen? ⟨w2.heap.size, 0, none⟩ = false) ∧ KeepsOthers W (w6.setCell ⟨w2.heap.size, 0, none⟩ (.slice (some ⟨g6, 0, none⟩) (pre.length + 1) c6)) ∧ Below w2.heap.size W (w6.setCell ⟨w2.heap.size, 0, none⟩ (.slice (some ⟨g6, 0, none⟩) (pre.length + 1) c6)) ∧
          Boxed (w6.setCell ⟨w2.heap.size, 0, none⟩ (.slice (some ⟨g6, 0, none⟩) (pre.length + 1) c6)) w2.heap.size 46 (.slice (some ⟨g6, 0, none⟩) (pre.length + 1) c6) ∧
          (w6.setCell ⟨w2.heap.size, 0, none⟩ (.slice (some ⟨g6, 0, none⟩) (pre.length + 1) c6)).ownsRow w2.heap.size 94 5 (.slice (some ⟨g6, 0, none⟩) (pre.length + 1) c6) (pre ++ [(⟨(xb, xk, xv), hxx⟩ : LfA w2 w2.heap.size)]).length (csC ((pre ++ [(⟨(xb, xk, xv), hxx⟩ : LfA w2 w2.heap.size)]).map lfCm))) := hide (fun g6 c6 w6 h1 h2 => by
        obtain ⟨hv1, hv2, hr2, hk2, hb2⟩ := hvd.appended (by decide) hrowd hWs (Nat.le_refl _) h1 h2
        refine ⟨⟨hv1.cell, hv1.frozen⟩, (KeepsOthers.drew W).trans hk2, ((Below.refl _ W).drew).trans hb2, hv2, ?_⟩
        rw [List.map_append, csC_app, List.length_append]
        exact hr2)
      have hcA : (W.alloc (.cells #[.int .i64 1, .int .i64 0, .int .i64 0, .string xk, .string xv] 94)).cell? ⟨w2.heap.size, 0, none⟩ = some v := (hv.alloc _).cell
      clear hvd hrowd hrow hv
      gi_wp2
      refine wpIn_region_any (by kernel_rfl) ?_
      refine wpAnyIn_round (F := Fence.wide) rfl (by kernel_rfl) _ _ _ _ ?_
      change wpAnyIn _ _ _ _ _ _ _ _ _ (World.drew _)
      refine wpAnyIn_take (i := 1) (v := .pointer (some ⟨xb, 0, none⟩)) rfl rfl (by kernel_rfl) (by kernel_rfl) (by kernel_rfl) (fun _ _ _ h => h) ⟨Or.inl ⟨by rfl, ?_⟩, fun _ => rfl⟩ ?_
      · intro w
        go_simp
      refine wpAnyIn_take (i := 5) (v := .pointer (some ⟨xb, 0, none⟩)) rfl rfl (by kernel_rfl) (by kernel_rfl) (by kernel_rfl) (fun _ _ _ h => h) ⟨Or.inl ⟨by rfl, ?_⟩, fun _ => rfl⟩ ?_
      · intro w
        go_simp
      refine wpAnyIn_take (i := 2) (v := .pointer (some ⟨xb, 0, none⟩)) rfl rfl (by kernel_rfl) (by kernel_rfl) (by kernel_rfl) (fun _ _ _ h => h) ⟨Or.inl ⟨by rfl, ?_⟩, fun _ => rfl⟩ ?_
      · intro w
        go_simp
      refine wpAnyIn_take (i := 6) (v := .pointer (some ⟨xb, 0, none⟩)) rfl rfl (by kernel_rfl) (by kernel_rfl) (by kernel_rfl) (fun _ _ _ h => h) ⟨Or.inl ⟨by rfl, ?_⟩, fun _ => rfl⟩ ?_
      · intro w
        go_simp
      refine wpAnyIn_take (i := 3) (v := .pointer (some ⟨xb, 0, none⟩)) rfl rfl (by kernel_rfl) (by kernel_rfl) (by kernel_rfl) (fun _ _ _ h => h) ⟨Or.inl ⟨by rfl, ?_⟩, fun _ => rfl⟩ ?_
      · intro w
        go_simp
      refine wpAnyIn_take (i := 7) (v := .pointer (some ⟨xb, 1, none⟩)) rfl rfl (by kernel_rfl) (by kernel_rfl) (by kernel_rfl) (fun _ _ _ h => h) ⟨Or.inl ⟨by rfl, ?_⟩, fun _ => rfl⟩ ?_
      · intro w
        go_simp
      refine wpAnyIn_ready (rs := [0, 4, 8]) (by kernel_rfl) (by simp) ?_
      refine AllReadyIn.cons rfl (fun K hK => ?_) ?_
      · go_simp
        refine hK _ _ ?_
        clear hK K
        refine wpAnyIn_ready (rs := [4, 8]) (by kernel_rfl) (by simp) ?_
        refine AllReadyIn.cons rfl (fun K hK => ?_) ?_
        · go_simp
          refine hK _ _ ?_
          clear hK K
          refine wpAnyIn_ready (rs := [8]) (by kernel_rfl) (by simp) ?_
          refine AllReadyIn.cons rfl (fun K hK => ?_) AllReadyIn.nil
          go_simp
          refine hK _ _ ?_
          clear hK K
          refine wpAnyIn_take (i := 9) (v := .agg #[.int .i64 1, .int .i64 0, .int .i64 0, .string xk, .string xv]) rfl rfl (by kernel_rfl) (by kernel_rfl) (by kernel_rfl) (fun _ _ _ h => h) ⟨Or.inl ⟨by rfl, ?_⟩, fun _ => rfl⟩ ?_
          · intro w
            go_simp
          refine wpAnyIn_ready (rs := [10]) (by kernel_rfl) (by simp) ?_
          refine AllReadyIn.cons rfl (fun K hK => ?_) AllReadyIn.nil
          go_simp
          refine hK _ _ ?_
          clear hK K
          refine wpAnyIn_ready (rs := [11]) (by kernel_rfl) (by simp) ?_
          refine AllReadyIn.cons rfl (fun K hK => ?_) AllReadyIn.nil
          refine stepIn_append_row rfl _ _ _ rfl w2.heap.size 94 i0 _ 5 56 Tryd.underlying46 hi hz0 hz1 hz2 rfl (by omega) v pre.length (csC (pre.map lfCm)) rfl (unhide hO4) _ 1 (cmC ⟨1, 0, 0, xk, xv⟩) rfl (unhide HRW) rfl (unhide H1C) (by unfold maxLen; omega) (by omega) hBs ?_
          intro a6 c6 w6 hown6 hgrow6 _
          obtain ⟨g6, c6', he6⟩ := ownsRow_succ hown6
          cases he6
          obtain ⟨⟨hc6, hf6⟩, hR6⟩ := unhide HFIN _ _ _ hown6 hgrow6
          have R6 := hide hR6
          clear hown6 hgrow6 hR6
          refine hK _ _ ?_
          clear hK K
          refine wpAnyIn_ready (rs := [12]) (by kernel_rfl) (by simp) ?_
          refine AllReadyIn.cons rfl (fun K hK => ?_) AllReadyIn.nil
          go_simp
          refine hK _ _ ?_
          clear hK K
          refine wpAnyIn_done (by kernel_rfl) ?_ _
          exact ⟨(unhide R6).1.from _, (unhide R6).2.1, ⟨_, (unhide R6).2.2.1, (unhide R6).2.2.2, trivial⟩, hB.trans (unhide R6).2.1⟩
        refine AllReadyIn.cons rfl (fun K hK => ?_) AllReadyIn.nil
        go_simp
        refine hK _ _ ?_
        clear hK K
        refine wpAnyIn_ready (rs := [4]) (by kernel_rfl) (by simp) ?_
        refine AllReadyIn.cons rfl (fun K hK => ?_) AllReadyIn.nil
        go_simp
        refine hK _ _ ?_
        clear hK K
        refine wpAnyIn_take (i := 9) (v := .agg #[.int .i64 1, .int .i64 0, .int .i64 0, .string xk, .string xv]) rfl rfl (by kernel_rfl) (by kernel_rfl) (by kernel_rfl) (fun _ _ _ h => h) ⟨Or.inl ⟨by rfl, ?_⟩, fun _ => rfl⟩ ?_
        · intro w
          go_simp
        refine wpAnyIn_ready (rs := [10]) (by kernel_rfl) (by simp) ?_
        refine AllReadyIn.cons rfl (fun K hK => ?_) AllReadyIn.nil
        go_simp
        refine hK _ _ ?_
        clear hK K
        refine wpAnyIn_ready (rs := [11]) (by kernel_rfl) (by simp) ?_
        refine AllReadyIn.cons rfl (fun K hK => ?_) AllReadyIn.nil
        refine stepIn_append_row rfl _ _ _ rfl w2.heap.size 94 i0 _ 5 56 Tryd.underlying46 hi hz0 hz1 hz2 rfl (by omega) v pre.length (csC (pre.map lfCm)) rfl (unhide hO4) _ 1 (cmC ⟨1, 0, 0, xk, xv⟩) rfl (unhide HRW) rfl (unhide H1C) (by unfold maxLen; omega) (by omega) hBs ?_
        intro a6 c6 w6 hown6 hgrow6 _
        obtain ⟨g6, c6', he6⟩ := ownsRow_succ hown6
        cases he6
        obtain ⟨⟨hc6, hf6⟩, hR6⟩ := unhide HFIN _ _ _ hown6 hgrow6
        have R6 := hide hR6
        clear hown6 hgrow6 hR6
        refine hK _ _ ?_
        clear hK K
        refine wpAnyIn_ready (rs := [12]) (by kernel_rfl) (by simp) ?_
        refine AllReadyIn.cons rfl (fun K hK => ?_) AllReadyIn.nil
        go_simp
        refine hK _ _ ?_
        clear hK K
        refine wpAnyIn_done (by kernel_rfl) ?_ _
        exact ⟨(unhide R6).1.from _, (unhide R6).2.1, ⟨_, (unhide R6).2.2.1, (unhide R6).2.2.2, trivial⟩, hB.trans (unhide R6).2.1⟩
      refine AllReadyIn.cons rfl (fun K hK => ?_) ?_
      · go_simp
        refine hK _ _ ?_
        clear hK K
        refine wpAnyIn_ready (rs := [0, 8]) (by kernel_rfl) (by simp) ?_
        refine AllReadyIn.cons rfl (fun K hK => ?_) ?_
        · go_simp
          refine hK _ _ ?_
          clear hK K
          refine wpAnyIn_ready (rs := [8]) (by kernel_rfl) (by simp) ?_
          refine AllReadyIn.cons rfl (fun K hK => ?_) AllReadyIn.nil
          go_simp
          refine hK _ _ ?_
          clear hK K
          refine wpAnyIn_take (i := 9) (v := .agg #[.int .i64 1, .int .i64 0, .int .i64 0, .string xk, .string xv]) rfl rfl (by kernel_rfl) (by kernel_rfl) (by kernel_rfl) (fun _ _ _ h => h) ⟨Or.inl ⟨by rfl, ?_⟩, fun _ => rfl⟩ ?_
          · intro w
            go_simp
          refine wpAnyIn_ready (rs := [10]) (by kernel_rfl) (by simp) ?_
          refine AllReadyIn.cons rfl (fun K hK => ?_) AllReadyIn.nil
          go_simp
          refine hK _ _ ?_
          clear hK K
          refine wpAnyIn_ready (rs := [11]) (by kernel_rfl) (by simp) ?_
          refine AllReadyIn.cons rfl (fun K hK => ?_) AllReadyIn.nil
          refine stepIn_append_row rfl _ _ _ rfl w2.heap.size 94 i0 _ 5 56 Tryd.underlying46 hi hz0 hz1 hz2 rfl (by omega) v pre.length (csC (pre.map lfCm)) rfl (unhide hO4) _ 1 (cmC ⟨1, 0, 0, xk, xv⟩) rfl (unhide HRW) rfl (unhide H1C) (by unfold maxLen; omega) (by omega) hBs ?_
          intro a6 c6 w6 hown6 hgrow6 _
          obtain ⟨g6, c6', he6⟩ := ownsRow_succ hown6
          cases he6
          obtain ⟨⟨hc6, hf6⟩, hR6⟩ := unhide HFIN _ _ _ hown6 hgrow6
          have R6 := hide hR6
          clear hown6 hgrow6 hR6
          refine hK _ _ ?_
          clear hK K
          refine wpAnyIn_ready (rs := [12]) (by kernel_rfl) (by simp) ?_
          refine AllReadyIn.cons rfl (fun K hK => ?_) AllReadyIn.nil
          go_simp
          refine hK _ _ ?_
          clear hK K
          refine wpAnyIn_done (by kernel_rfl) ?_ _
          exact ⟨(unhide R6).1.from _, (unhide R6).2.1, ⟨_, (unhide R6).2.2.1, (unhide R6).2.2.2, trivial⟩, hB.trans (unhide R6).2.1⟩
        refine AllReadyIn.cons rfl (fun K hK => ?_) AllReadyIn.nil
        go_simp
        refine hK _ _ ?_
        clear hK K
        refine wpAnyIn_take (i := 9) (v := .agg #[.int .i64 1, .int .i64 0, .int .i64 0, .string xk, .string xv]) rfl rfl (by kernel_rfl) (by kernel_rfl) (by kernel_rfl) (fun _ _ _ h => h) ⟨Or.inl ⟨by rfl, ?_⟩, fun _ => rfl⟩ ?_
        · intro w
          go_simp
        refine wpAnyIn_ready (rs := [0, 10]) (by kernel_rfl) (by simp) ?_
        refine AllReadyIn.cons rfl (fun K hK => ?_) ?_
        · go_simp
          refine hK _ _ ?_
          clear hK K
          refine wpAnyIn_ready (rs := [10]) (by kernel_rfl) (by simp) ?_
          refine AllReadyIn.cons rfl (fun K hK => ?_) AllReadyIn.nil
          go_simp
          refine hK _ _ ?_
          clear hK K
          refine wpAnyIn_ready (rs := [11]) (by kernel_rfl) (by simp) ?_
          refine AllReadyIn.cons rfl (fun K hK => ?_) AllReadyIn.nil
          refine stepIn_append_row rfl _ _ _ rfl w2.heap.size 94 i0 _ 5 56 Tryd.underlying46 hi hz0 hz1 hz2 rfl (by omega) v pre.length (csC (pre.map lfCm)) rfl (unhide hO4) _ 1 (cmC ⟨1, 0, 0, xk, xv⟩) rfl (unhide HRW) rfl (unhide H1C) (by unfold maxLen; omega) (by omega) hBs ?_
          intro a6 c6 w6 hown6 hgrow6 _
          obtain ⟨g6, c6', he6⟩ := ownsRow_succ hown6
          cases he6
          obtain ⟨⟨hc6, hf6⟩, hR6⟩ := unhide HFIN _ _ _ hown6 hgrow6
          have R6 := hide hR6
          clear hown6 hgrow6 hR6
          refine hK _ _ ?_
          clear hK K
          refine wpAnyIn_ready (rs := [12]) (by kernel_rfl) (by simp) ?_
          refine AllReadyIn.cons rfl (fun K hK => ?_) AllReadyIn.nil
          go_simp
          refine hK _ _ ?_
          clear hK K
          refine wpAnyIn_done (by kernel_rfl) ?_ _
          exact ⟨(unhide R6).1.from _, (unhide R6).2.1, ⟨_, (unhide R6).2.2.1, (unhide R6).2.2.2, trivial⟩, hB.trans (unhide R6).2.1⟩
        refine AllReadyIn.cons rfl (fun K hK => ?_) AllReadyIn.nil
        go_simp
        refine hK _ _ ?_
        clear hK K
        refine wpAnyIn_ready (rs := [0]) (by kernel_rfl) (by simp) ?_
        refine AllReadyIn.cons rfl (fun K hK => ?_) AllReadyIn.nil
        go_simp
        refine hK _ _ ?_
        clear hK K
        refine wpAnyIn_ready (rs := [11]) (by kernel_rfl) (by simp) ?_
        refine AllReadyIn.cons rfl (fun K hK => ?_) AllReadyIn.nil
        refine stepIn_append_row rfl _ _ _ rfl w2.heap.size 94 i0 _ 5 56 Tryd.underlying46 hi hz0 hz1 hz2 rfl (by omega) v pre.length (csC (pre.map lfCm)) rfl (unhide hO4) _ 1 (cmC ⟨1, 0, 0, xk, xv⟩) rfl (unhide HRW) rfl (unhide H1C) (by unfold maxLen; omega) (by omega) hBs ?_
        intro a6 c6 w6 hown6 hgrow6 _
        obtain ⟨g6, c6', he6⟩ := ownsRow_succ hown6
        cases he6
        obtain ⟨⟨hc6, hf6⟩, hR6⟩ := unhide HFIN _ _ _ hown6 hgrow6
        have R6 := hide hR6
        clear hown6 hgrow6 hR6
        refine hK _ _ ?_
        clear hK K
        refine wpAnyIn_ready (rs := [12]) (by kernel_rfl) (by simp) ?_
        refine AllReadyIn.cons rfl (fun K hK => ?_) AllReadyIn.nil
        go_simp
        refine hK _ _ ?_
        clear hK K
        refine wpAnyIn_done (by kernel_rfl) ?_ _
        exact ⟨(unhide R6).1.from _, (unhide R6).2.1, ⟨_, (unhide R6).2.2.1, (unhide R6).2.2.2, trivial⟩, hB.trans (unhide R6).2.1⟩
      refine AllReadyIn.cons rfl (fun K hK => ?_) AllReadyIn.nil
      go_simp
      refine hK _ _ ?_
      clear hK K
      refine wpAnyIn_ready (rs := [0, 4]) (by kernel_rfl) (by simp) ?_
      refine AllReadyIn.cons rfl (fun K hK => ?_) ?_
      · go_simp
        refine hK _ _ ?_
        clear hK K
        refine wpAnyIn_ready (rs := [4]) (by kernel_rfl) (by simp) ?_
        refine AllReadyIn.cons rfl (fun K hK => ?_) AllReadyIn.nil
        go_simp
        refine hK _ _ ?_
        clear hK K
        refine wpAnyIn_take (i := 9) (v := .agg #[.int .i64 1, .int .i64 0, .int .i64 0, .string xk, .string xv]) rfl rfl (by kernel_rfl) (by kernel_rfl) (by kernel_rfl) (fun _ _ _ h => h) ⟨Or.inl ⟨by rfl, ?_⟩, fun _ => rfl⟩ ?_
        · intro w
          go_simp
        refine wpAnyIn_ready (rs := [10]) (by kernel_rfl) (by simp) ?_
        refine AllReadyIn.cons rfl (fun K hK => ?_) AllReadyIn.nil
        go_simp
        refine hK _ _ ?_
        clear hK K
        refine wpAnyIn_ready (rs := [11]) (by kernel_rfl) (by simp) ?_
        refine AllReadyIn.cons rfl (fun K hK => ?_) AllReadyIn.nil
        refine stepIn_append_row rfl _ _ _ rfl w2.heap.size 94 i0 _ 5 56 Tryd.underlying46 hi hz0 hz1 hz2 rfl (by omega) v pre.length (csC (pre.map lfCm)) rfl (unhide hO4) _ 1 (cmC ⟨1, 0, 0, xk, xv⟩) rfl (unhide HRW) rfl (unhide H1C) (by unfold maxLen; omega) (by omega) hBs ?_
        intro a6 c6 w6 hown6 hgrow6 _
        obtain ⟨g6, c6', he6⟩ := ownsRow_succ hown6
        cases he6
        obtain ⟨⟨hc6, hf6⟩, hR6⟩ := unhide HFIN _ _ _ hown6 hgrow6
        have R6 := hide hR6
        clear hown6 hgrow6 hR6
        refine hK _ _ ?_
        clear hK K
        refine wpAnyIn_ready (rs := [12]) (by kernel_rfl) (by simp) ?_
        refine AllReadyIn.cons rfl (fun K hK => ?_) AllReadyIn.nil
        go_simp
        refine hK _ _ ?_
        clear hK K
        refine wpAnyIn_done (by kernel_rfl) ?_ _
        exact ⟨(unhide R6).1.from _, (unhide R6).2.1, ⟨_, (unhide R6).2.2.1, (unhide R6).2.2.2, trivial⟩, hB.trans (unhide R6).2.1⟩
      refine AllReadyIn.cons rfl (fun K hK => ?_) AllReadyIn.nil
      go_simp
      refine hK _ _ ?_
      clear hK K
      refine wpAnyIn_take (i := 9) (v := .agg #[.int .i64 1, .int .i64 0, .int .i64 0, .string xk, .string xv]) rfl rfl (by kernel_rfl) (by kernel_rfl) (by kernel_rfl) (fun _ _ _ h => h) ⟨Or.inl ⟨by rfl, ?_⟩, fun _ => rfl⟩ ?_
      · intro w
        go_simp
      refine wpAnyIn_ready (rs := [0, 10]) (by kernel_rfl) (by simp) ?_
      refine AllReadyIn.cons rfl (fun K hK => ?_) ?_
      · go_simp
        refine hK _ _ ?_
        clear hK K
        refine wpAnyIn_ready (rs := [10]) (by kernel_rfl) (by simp) ?_
        refine AllReadyIn.cons rfl (fun K hK => ?_) AllReadyIn.nil
        go_simp
        refine hK _ _ ?_
        clear hK K
        refine wpAnyIn_ready (rs := [11]) (by kernel_rfl) (by simp) ?_
        refine AllReadyIn.cons rfl (fun K hK => ?_) AllReadyIn.nil
        refine stepIn_append_row rfl _ _ _ rfl w2.heap.size 94 i0 _ 5 56 Tryd.underlying46 hi hz0 hz1 hz2 rfl (by omega) v pre.length (csC (pre.map lfCm)) rfl (unhide hO4) _ 1 (cmC ⟨1, 0, 0, xk, xv⟩) rfl (unhide HRW) rfl (unhide H1C) (by unfold maxLen; omega) (by omega) hBs ?_
        intro a6 c6 w6 hown6 hgrow6 _
        obtain ⟨g6, c6', he6⟩ := ownsRow_succ hown6
        cases he6
        obtain ⟨⟨hc6, hf6⟩, hR6⟩ := unhide HFIN _ _ _ hown6 hgrow6
        have R6 := hide hR6
        clear hown6 hgrow6 hR6
        refine hK _ _ ?_
        clear hK K
        refine wpAnyIn_ready (rs := [12]) (by kernel_rfl) (by simp) ?_
        refine AllReadyIn.cons rfl (fun K hK => ?_) AllReadyIn.nil
        go_simp
        refine hK _ _ ?_
        clear hK K
        refine wpAnyIn_done (by kernel_rfl) ?_ _
        exact ⟨(unhide R6).1.from _, (unhide R6).2.1, ⟨_, (unhide R6).2.2.1, (unhide R6).2.2.2, trivial⟩, hB.trans (unhide R6).2.1⟩
      refine AllReadyIn.cons rfl (fun K hK => ?_) AllReadyIn.nil
      go_simp
      refine hK _ _ ?_
      clear hK K
      refine wpAnyIn_ready (rs := [0]) (by kernel_rfl) (by simp) ?_
      refine AllReadyIn.cons rfl (fun K hK => ?_) AllReadyIn.nil
      go_simp
      refine hK _ _ ?_
      clear hK K
      refine wpAnyIn_ready (rs := [11]) (by kernel_rfl) (by simp) ?_
      refine AllReadyIn.cons rfl (fun K hK => ?_) AllReadyIn.nil
      refine stepIn_append_row rfl _ _ _ rfl w2.heap.size 94 i0 _ 5 56 Tryd.underlying46 hi hz0 hz1 hz2 rfl (by omega) v pre.length (csC (pre.map lfCm)) rfl (unhide hO4) _ 1 (cmC ⟨1, 0, 0, xk, xv⟩) rfl (unhide HRW) rfl (unhide H1C) (by unfold maxLen; omega) (by omega) hBs ?_
      intro a6 c6 w6 hown6 hgrow6 _
      obtain ⟨g6, c6', he6⟩ := ownsRow_succ hown6
      cases he6
      obtain ⟨⟨hc6, hf6⟩, hR6⟩ := unhide HFIN _ _ _ hown6 hgrow6
      have R6 := hide hR6
      clear hown6 hgrow6 hR6
      refine hK _ _ ?_
      clear hK K
      refine wpAnyIn_ready (rs := [12]) (by kernel_rfl) (by simp) ?_
      refine AllReadyIn.cons rfl (fun K hK => ?_) AllReadyIn.nil
      go_simp
      refine hK _ _ ?_
      clear hK K
      refine wpAnyIn_done (by kernel_rfl) ?_ _
      exact ⟨(unhide R6).1.from _, (unhide R6).2.1, ⟨_, (unhide R6).2.2.1, (unhide R6).2.2.2, trivial⟩, hB.trans (unhide R6).2.1⟩
    case done =>
      rintro D ys W hD rfl ⟨⟨v, hv, hrow, _⟩, hB⟩ hK
      have hc := hv.cell
      gi_wp2
      have B2 := B0.trans (hb.mono B0.size)
      have hz2' := B2.size
      have hO : OwnC w.heap.size W v (cmsO o) := by
        refine OwnC.down (B := w2.heap.size) ?_ hz2'
        unfold OwnC
        rw [← hTl, List.length_map]
        exact hrow
      have hD2 : w2.heap.size ≤ D := by simp at hD; omega
      refine ⟨by simp, .inl ⟨_, _, rfl, run_takeDeferred hK, ?_⟩⟩
      exact ⟨_, results_tmp2 rfl _ _ _, v, rfl, ownsRow_putObj hO _ hK rfl, (B2.trans (hB.mono hz2')).trans (belowK_b (w := w) (Nat.le_refl _) W D _ _ (by omega) hK rfl rfl)⟩
    case stop =>
      rintro D c pre W _ _ h _
      exact h.elim
end Go.Proofs.YtcmdilmjdnbfkaaDoor.Sha
