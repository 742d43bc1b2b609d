/- (leader).add, walked. (Written by py/npj.py.) -/
import Derived.Test.YtljolldacpkeeaaNpF
import Derived.Test.YtljolldacpkeeaaNpI
import Derived.Test.YtljolldacpkeeaaNodK
namespace Go.Proofs.Ytljolldacpkeeaa
open Go.ChangeShapes Go.WideShapes Go.ChangeAt Go.RowKit Go.Deep
set_option linter.unusedVariables false
set_option linter.unusedSimpArgs false

theorem hasN_le (l : List Int) : ∀ k, hasN l k ≤ k
  | 0 => Nat.le_refl _
  | k + 1 => by have := hasN_le l k; simp only [hasN]; split <;> omega
theorem mb_seven (lg : List En) (st : List Int) (hg : CfgOK lg) (hs : mFault st = 0) : (mbAt lg st lg.length).length ≤ 7 ∧ ∀ d ∈ mbAt lg st lg.length, 0 ≤ d ∧ d < 7 := by
  have h := fault_ids (mb_fault lg st hg hs lg.length (Nat.le_refl _))
  have hm := inAll_mem h.1
  refine ⟨?_, fun d hd => ⟨(hm d hd).1, by have := (hm d hd).2; omega⟩⟩
  rw [hasN_all (rising_nodup h.2) (fun x hx => (hm x hx).1) (fun x hx => (hm x hx).2)]
  exact hasN_le _ _
theorem getD_push (lg : List En) (e : En) (i : Nat) : (lg ++ [e]).getD i default = if i < lg.length then lg.getD i default else if i = lg.length then e else default := by
  rw [List.getD_eq_getElem?_getD]
  by_cases h : i < lg.length
  · rw [if_pos h, List.getElem?_append_left h, List.getD_eq_getElem?_getD]
  · rw [if_neg h, List.getElem?_append_right (by omega)]
    by_cases h2 : i = lg.length
    · subst h2; simp
    · rw [if_neg h2]
      have : i - lg.length ≠ 0 := by omega
      rw [List.getElem?_eq_none (by simp; omega)]; rfl
theorem cfg_push {lg : List En} (h : CfgOK lg) (e : En) (he : e.k ≠ 2) : CfgOK (lg ++ [e]) := by
  intro i hi h2
  rw [getD_push] at h2 ⊢
  by_cases h1 : i < lg.length
  · rw [if_pos h1] at h2 ⊢; exact h i h1 h2
  · rw [List.length_append] at hi
    simp only [List.length_cons, List.length_nil] at hi
    rw [if_neg h1, if_pos (by omega)] at h2
    exact absurd h2 he
theorem size_push {lg : List En} {M : Nat} (h : ∀ i, (lg.getD i default).d.size ≤ M) (e : En) (he : e.d.size ≤ M) : ∀ i, ((lg ++ [e]).getD i default).d.size ≤ M := by
  intro i
  rw [getD_push]
  split
  · exact h i
  · split
    · exact he
    · exact Nat.zero_le _
theorem ensC_push (lg : List En) (e : En) : ensC (lg ++ [e]) = ensC lg ++ enC e := by simp [ensC]
theorem NoO.keep {T : Nat → Prop} {B : Nat} {w w' : World} {lv sv vv nv mv : Value} {lg : List En} {st vs nx mt : List Int} (h : NoO B w lv sv vv nv mv lg st vs nx mt) (ht : Touch T w w') (hn : ∀ k, NoT [lv, sv, vv, nv, mv] k → ¬ T k) : NoO B w' lv sv vv nv mv lg st vs nx mt :=
  ⟨OwnE.kept h.lg ht (fun k hk => hn k ⟨_, by simp, hk⟩), h.st.kept ht (fun k hk => hn k ⟨sv, by simp, hk⟩), h.vs.kept ht (fun k hk => hn k ⟨vv, by simp, hk⟩), h.nx.kept ht (fun k hk => hn k ⟨nv, by simp, hk⟩), h.mt.kept ht (fun k hk => hn k ⟨mv, by simp, hk⟩), h.ap⟩
theorem NoO.blk {B : Nat} {w : World} {lv sv vv nv mv : Value} {lg : List En} {st vs nx mt : List Int} (h : NoO B w lv sv vv nv mv lg st vs nx mt) (k : Nat) (hk : NoT [lv, sv, vv, nv, mv] k) : B ≤ k ∧ k < w.heap.size := by
  obtain ⟨v, hv, hq⟩ := hk
  simp only [List.mem_cons, List.not_mem_nil, or_false] at hv
  rcases hv with rfl | rfl | rfl | rfl | rfl
  · exact World.ownsRow.lt h.lg k hq
  · exact h.st.lt k hq
  · exact h.vs.lt k hq
  · exact h.nx.lt k hq
  · exact h.mt.lt k hq
/-- The log has one entry more. -/
theorem NoO.log {B : Nat} {w w' : World} {lv lv' sv vv nv mv : Value} {lg : List En} {e : En} {st vs nx mt : List Int} (h : NoO B w lv sv vv nv mv lg st vs nx mt) (hg : w.grownBy w' lv.ownBlock) (hown : OwnE B w' lv' (lg ++ [e])) (hat : lv'.ownBlock = lv.ownBlock ∨ lv'.ownBlock = some w.heap.size) : NoO B w' lv' sv vv nv mv (lg ++ [e]) st vs nx mt := by
  have T : Touch (fun k => lv.ownBlock = some k) w w' := (Touch.refl _ w).grown hg (fun k e _ => e)
  obtain ⟨h1, h2⟩ := List.pairwise_cons.1 h.ap
  have hx : ∀ x ∈ [sv, vv, nv, mv], Apart lv' x := fun x hx k hk e => by
    rcases hat with ha | ha
    · exact h1 x hx k (ha ▸ hk) e
    · have hk2 : k = w.heap.size := by rw [ha] at hk; exact (Option.some.inj hk).symm
      have := (NoO.blk h k ⟨x, List.mem_cons_of_mem _ hx, e⟩).2
      omega
  refine ⟨hown, h.st.kept T (fun k hk e => h1 sv (by simp) k e hk), h.vs.kept T (fun k hk e => h1 vv (by simp) k e hk), h.nx.kept T (fun k hk e => h1 nv (by simp) k e hk), h.mt.kept T (fun k hk e => h1 mv (by simp) k e hk), List.pairwise_cons.2 ⟨hx, h2⟩⟩
/-- What (leader).add leaves: the log one longer, what is committed, what is sent. -/
def AddR (B b : Nat) (id tm vo ro cm el wt : Int) (up : Bool) (lg : List En) (st vs nx mt : List Int) (la : Option Addr) (lc : Nat) (sa : Option Addr) (sc : Nat) (va : Option Addr) (vc : Nat) (na : Option Addr) (nc : Nat) (ma : Option Addr) (mc : Nat) (t k : Int) (d : ByteArray) (w w' : World) : Prop :=
  ∃ la' lc' v l D, Blk w' b [.int .i64 id, .int .i64 tm, .int .i64 vo, .slice la' (lg ++ [(⟨t, k, d⟩ : En)]).length lc', .slice sa st.length sc, .int .i64 ro, .slice va vs.length vc, .slice na nx.length nc, .slice ma mt.length mc, .int .i64 (advTo id tm cm (lg ++ [(⟨t, k, d⟩ : En)]) mt (mbAt (lg ++ [(⟨t, k, d⟩ : En)]) st (lg ++ [(⟨t, k, d⟩ : En)]).length) (lg ++ [(⟨t, k, d⟩ : En)]).length), .int .i64 el, .int .i64 wt, .bool up, v] ∧ NoO B w' (.slice la' (lg ++ [(⟨t, k, d⟩ : En)]).length lc') (.slice sa st.length sc) (.slice va vs.length vc) (.slice na nx.length nc) (.slice ma mt.length mc) (lg ++ [(⟨t, k, d⟩ : En)]) st vs nx mt ∧ Ns mgS D w' v l.length l ∧ l.map bareM = tellL id tm (advTo id tm cm (lg ++ [(⟨t, k, d⟩ : En)]) mt (mbAt (lg ++ [(⟨t, k, d⟩ : En)]) st (lg ++ [(⟨t, k, d⟩ : En)]).length) (lg ++ [(⟨t, k, d⟩ : En)]).length) (lg ++ [(⟨t, k, d⟩ : En)]) nx (mbAt (lg ++ [(⟨t, k, d⟩ : En)]) st (lg ++ [(⟨t, k, d⟩ : En)]).length) ∧ (∀ q, NoT [.slice la' (lg ++ [(⟨t, k, d⟩ : En)]).length lc', .slice sa st.length sc, .slice va vs.length vc, .slice na nx.length nc, .slice ma mt.length mc] q → q ≠ b ∧ q < D) ∧ b < D ∧ w.heap.size ≤ D ∧ Touch (fun q => q = b ∨ (Value.slice la lg.length lc).ownBlock = some q) w w'
set_option maxRecDepth 100000 in
set_option maxHeartbeats 2000000 in
theorem add_any (B b : Nat) (id tm vo ro cm el wt : Int) (up : Bool) (lg : List En) (st vs nx mt : List Int) (la : Option Addr) (lc : Nat) (sa : Option Addr) (sc : Nat) (va : Option Addr) (vc : Nat) (na : Option Addr) (nc : Nat) (ma : Option Addr) (mc : Nat) (t k : Int) (d : ByteArray) (w : World) (hX : Blk w b [.int .i64 id, .int .i64 tm, .int .i64 vo, .slice la lg.length lc, .slice sa st.length sc, .int .i64 ro, .slice va vs.length vc, .slice na nx.length nc, .slice ma mt.length mc, .int .i64 cm, .int .i64 el, .int .i64 wt, .bool up, .slice none 0 0]) (hO : NoO B w (.slice la lg.length lc) (.slice sa st.length sc) (.slice va vs.length vc) (.slice na nx.length nc) (.slice ma mt.length mc) lg st vs nx mt) (hap : ∀ v ∈ ([.slice la lg.length lc, .slice sa st.length sc, .slice va vs.length vc, .slice na nx.length nc, .slice ma mt.length mc] : List Value), v.ownBlock ≠ some b) (hB : B ≤ w.heap.size) (hz : ∀ i, (lg.getD i default).d.size ≤ maxLen) (hd : d.size ≤ maxLen) (hk2 : k ≠ 2) (hl : lg.length < 60) (hg : CfgOK lg) (hst : mFault st = 0) (hnx : nx.length = 7) (hmt : mt.length = 7) (hc : 0 ≤ cm) (hnn : ∀ i, i < 7 → 1 ≤ nx.getD i 0 ∧ nx.getD i 0 ≤ (lg.length : Int) + 1) :
    Calls Try.prog 60 #[.agg #[.pointer (some ⟨b, 0, none⟩)], .agg #[.int .i64 t, .int .i64 k, .string d]] w fun e w' => e = .returned (.int .i64 0) ∧ AddR B b id tm vo ro cm el wt up lg st vs nx mt la lc sa sc va vc na nc ma mc t k d w w' := by
  obtain ⟨i0, hi, hz0, hz1, hz2⟩ := info_parts infoEn
  have hbw := hX.1
  have HX := hide hX
  have HO := hide hO
  have HAP := hide hap
  have BB := ((Below.refl w.heap.size w).alloc (Nat.le_refl _) (.cells #[.pointer (some ⟨b, 0, none⟩)] 82)).alloc (by simp) (.cells #[.int .i64 t, .int .i64 k, .string d] 63)
  have B0 := hide BB
  have L0 := hide ((Blk.new w #[.pointer (some ⟨b, 0, none⟩)] 82 w.heap.size rfl).alloc (.cells #[.int .i64 t, .int .i64 k, .string d] 63))
  have E0 := hide (Blk.new (w.alloc (.cells #[.pointer (some ⟨b, 0, none⟩)] 82)) #[.int .i64 t, .int .i64 k, .string d] 63 (w.heap.size + 1) (by simp))
  have HEn := hide (end_any b la lg.length lc _ ((hX.below BB).cell 3 rfl))
  have l0 := (unhide L0).cell 0 rfl
  have HS := hide (And.intro hz (And.intro hd (And.intro hk2 (And.intro hg (And.intro hst (And.intro hnx (And.intro hmt (And.intro hc hnn))))))))
  have q1 : ¬ (60 : Int) ≤ (lg.length : Int) := by omega
  clear hX hO hap BB hz hd hk2 hg hst hnx hmt hc hnn
  go_enter Try.func60, Try.ntmps60
  go_wp2_with fail
  generalize (w.alloc (.cells #[.pointer (some ⟨b, 0, none⟩)] 82)).alloc (.cells #[.int .i64 t, .int .i64 k, .string d] 63) = w1 at *
  refine (unhide HEn).mono ?_
  rintro e w' ⟨rfl, hw'⟩
  have hw2 := hw'.symm
  clear hw'
  subst hw2
  have hl0 : w.heap.size < w1.heap.size := (unhide L0).1
  have he0 : w.heap.size + 1 < w1.heap.size := (unhide E0).1
  have e0 := (unhide E0).cell 0 rfl
  have e1 := (unhide E0).cell 1 rfl
  have e2 := (unhide E0).cell 2 rfl
  go_wp2_with fail
  have B2 := hide (below_drewN (unhide B0) 1)
  have L2 := hide ((unhide L0).drewN 1)
  have E2 := hide ((unhide E0).drewN 1)
  change Hid (Below w.heap.size w w1.drew) at B2
  change Hid (Blk w1.drew w.heap.size _) at L2
  change Hid (Blk w1.drew (w.heap.size + 1) _) at E2
  refine wp_region_noPanic ?_
  refine wp_region_held_drew (S := (fun wx => wx.cell? ⟨w.heap.size, 0, none⟩ = some (.pointer (some ⟨b, 0, none⟩)) ∧ wx.cell? ⟨w.heap.size + 1, 0, none⟩ = some (.int .i64 t) ∧ wx.cell? ⟨w.heap.size + 1, 1, none⟩ = some (.int .i64 k) ∧ wx.cell? ⟨w.heap.size + 1, 2, none⟩ = some (.string d))) (by kernel_rfl) ?_ (fun hHeld => ?_)
  · exact ⟨l0, e0, e1, e2⟩
  refine wpAnyH_take (i := 0) (oi := _) (v := ?_) rfl (by kernel_rfl) (by kernel_rfl) (by kernel_rfl) (fun _ _ _ h => h) (Or.inl ⟨by rfl, ?_⟩) (by assumption) ?_
  rotate_left 1
  · (intro wq hSw; (try dsimp only at hSw); (try simp only [List.getElem_toArray, List.getElem_cons_succ, List.getElem_cons_zero]); go_simp; try with_reducible rfl)
  (try simp only [Act.put, List.getElem_toArray, List.getElem_cons_succ, List.getElem_cons_zero, List.setIfInBounds_toArray, List.set_cons_zero, List.set_cons_succ])
  refine wpAnyH_take (i := 1) (oi := _) (v := ?_) rfl (by kernel_rfl) (by kernel_rfl) (by kernel_rfl) (fun _ _ _ h => h) (Or.inl ⟨by rfl, ?_⟩) (by assumption) ?_
  rotate_left 1
  · (intro wq hSw; (try dsimp only at hSw); (try simp only [List.getElem_toArray, List.getElem_cons_succ, List.getElem_cons_zero]); go_simp; try with_reducible rfl)
  (try simp only [Act.put, List.getElem_toArray, List.getElem_cons_succ, List.getElem_cons_zero, List.setIfInBounds_toArray, List.set_cons_zero, List.set_cons_succ])
  refine wpAnyH_take (i := 2) (oi := _) (v := ?_) rfl (by kernel_rfl) (by kernel_rfl) (by kernel_rfl) (fun _ _ _ h => h) (Or.inl ⟨by rfl, ?_⟩) (by assumption) ?_
  rotate_left 1
  · (intro wq hSw; (try dsimp only at hSw); (try simp only [List.getElem_toArray, List.getElem_cons_succ, List.getElem_cons_zero]); go_simp; try with_reducible rfl)
  (try simp only [Act.put, List.getElem_toArray, List.getElem_cons_succ, List.getElem_cons_zero, List.setIfInBounds_toArray, List.set_cons_zero, List.set_cons_succ])
  refine wpAnyH_take (i := 3) (oi := _) (v := ?_) rfl (by kernel_rfl) (by kernel_rfl) (by kernel_rfl) (fun _ _ _ h => h) (Or.inl ⟨by rfl, ?_⟩) (by assumption) ?_
  rotate_left 1
  · (intro wq hSw; (try dsimp only at hSw); (try simp only [List.getElem_toArray, List.getElem_cons_succ, List.getElem_cons_zero]); go_simp; try with_reducible rfl)
  (try simp only [Act.put, List.getElem_toArray, List.getElem_cons_succ, List.getElem_cons_zero, List.setIfInBounds_toArray, List.set_cons_zero, List.set_cons_succ])
  refine wpAnyH_take (i := 4) (oi := _) (v := ?_) rfl (by kernel_rfl) (by kernel_rfl) (by kernel_rfl) (fun _ _ _ h => h) (Or.inl ⟨by rfl, ?_⟩) (by assumption) ?_
  rotate_left 1
  · (intro wq hSw; (try dsimp only at hSw); (try simp only [List.getElem_toArray, List.getElem_cons_succ, List.getElem_cons_zero]); go_simp; try with_reducible rfl)
  (try simp only [Act.put, List.getElem_toArray, List.getElem_cons_succ, List.getElem_cons_zero, List.setIfInBounds_toArray, List.set_cons_zero, List.set_cons_succ])
  refine wpAnyH_take (i := 5) (oi := _) (v := ?_) rfl (by kernel_rfl) (by kernel_rfl) (by kernel_rfl) (fun _ _ _ h => h) (Or.inl ⟨by rfl, ?_⟩) (by assumption) ?_
  rotate_left 1
  · (intro wq hSw; (try dsimp only at hSw); (try simp only [List.getElem_toArray, List.getElem_cons_succ, List.getElem_cons_zero]); go_simp; try with_reducible rfl)
  (try simp only [Act.put, List.getElem_toArray, List.getElem_cons_succ, List.getElem_cons_zero, List.setIfInBounds_toArray, List.set_cons_zero, List.set_cons_succ])
  refine wpAnyH_take (i := 6) (oi := _) (v := ?_) rfl (by kernel_rfl) (by kernel_rfl) (by kernel_rfl) (fun _ _ _ h => h) (Or.inl ⟨by rfl, ?_⟩) (by assumption) ?_
  rotate_left 1
  · (intro wq hSw; (try dsimp only at hSw); (try simp only [List.getElem_toArray, List.getElem_cons_succ, List.getElem_cons_zero]); go_simp; try with_reducible rfl)
  (try simp only [Act.put, List.getElem_toArray, List.getElem_cons_succ, List.getElem_cons_zero, List.setIfInBounds_toArray, List.set_cons_zero, List.set_cons_succ])
  refine wpAnyH_take (i := 8) (oi := _) (v := ?_) rfl (by kernel_rfl) (by kernel_rfl) (by kernel_rfl) (fun _ _ _ h => h) (Or.inl ⟨by rfl, ?_⟩) (by assumption) ?_
  rotate_left 1
  · (intro wq hSw; (try dsimp only at hSw); (try simp only [List.getElem_toArray, List.getElem_cons_succ, List.getElem_cons_zero]); go_simp; try with_reducible rfl)
  (try simp only [Act.put, List.getElem_toArray, List.getElem_cons_succ, List.getElem_cons_zero, List.setIfInBounds_toArray, List.set_cons_zero, List.set_cons_succ])
  clear l0 e0 e1 e2 L0 E0 B0 hl0 he0 HEn
  generalize w1.drew = wz at *
  have l0 := (unhide L2).cell 0 rfl
  have e0 := (unhide E2).cell 0 rfl
  have e1 := (unhide E2).cell 1 rfl
  have e2 := (unhide E2).cell 2 rfl
  have X2 := hide ((unhide HX).below (unhide B2))
  have y3 := (unhide X2).cell 3 rfl
  have hl0 : w.heap.size < wz.heap.size := (unhide L2).1
  have he0 : w.heap.size + 1 < wz.heap.size := (unhide E2).1
  have HB4 := hide ((Below.refl wz.heap.size wz).alloc (Nat.le_refl _) (.cells #[.int .i64 t, .int .i64 k, .string d] 63))
  have HR4 := hide (blk_rw (Blk.new wz #[.int .i64 t, .int .i64 k, .string d] 63 wz.heap.size rfl))
  have z3 := ((unhide HB4).cell (p := ⟨b, 3, none⟩) (show b < wz.heap.size by omega)).trans y3
  have hbX := unhide HB4
  refine wpAnyH_ready (rs := [7, 9]) (by kernel_rfl) (by simp) ?_
  refine AllReadyH.cons (o := _) rfl (fun K hK => ?_) (AllReadyH.cons (o := _) rfl (fun K hK => ?_) AllReadyH.nil)
  · go_simp
    refine hK.out _ _ ?_ (fun hHeld => ?_)
    · exact ⟨l0, e0, e1, e2⟩
    clear hK K
    (try simp only [Act.put, List.getElem_toArray, List.getElem_cons_succ, List.getElem_cons_zero, List.setIfInBounds_toArray, List.set_cons_zero, List.set_cons_succ])
    refine wpAnyH_ready (rs := [9]) (by kernel_rfl) (by simp) ?_
    refine AllReadyH.cons (o := _) rfl (fun K hK => ?_) AllReadyH.nil
    go_simp
    refine hK.out _ _ ?_ (fun hHeld => ?_)
    · exact ⟨(hbX.cell (p := ⟨w.heap.size, 0, none⟩) hl0).trans l0, (hbX.cell (p := ⟨w.heap.size + 1, 0, none⟩) he0).trans e0, (hbX.cell (p := ⟨w.heap.size + 1, 1, none⟩) he0).trans e1, (hbX.cell (p := ⟨w.heap.size + 1, 2, none⟩) he0).trans e2⟩
    clear hK K
    (try simp only [Act.put, List.getElem_toArray, List.getElem_cons_succ, List.getElem_cons_zero, List.setIfInBounds_toArray, List.set_cons_zero, List.set_cons_succ])
    generalize wz.alloc (.cells #[.int .i64 t, .int .i64 k, .string d] 63) = w4 at *
    have O4 := hide ((unhide HO).below (unhide B2) |>.below (unhide HB4))
    have hs2 := (unhide B2).size
    have hs4 := (unhide HB4).size
    refine wpAnyH_ready (rs := [10]) (by kernel_rfl) (by simp) ?_
    refine AllReadyH.cons (o := _) rfl (fun K hK => ?_) AllReadyH.nil
    refine step_append_row rfl _ _ _ rfl B 63 i0 _ 3 32 Try.underlying27 hi hz0 hz1 hz2 rfl (by omega) (.slice la lg.length lc) lg.length _ rfl (unhide O4).lg _ 1 [.int .i64 t, .int .i64 k, .string d] rfl (unhide HR4) rfl (by simp [Value.oneCell']) (by unfold maxLen; omega) (by omega) (by omega) ?_
    intro a6 c6 w5 hown5 hgrow5 hat5
    obtain ⟨g, rfl⟩ : ∃ g, a6 = some ⟨g, 0, none⟩ := by
      rcases own_shape hown5 with ⟨_, h0⟩ | ⟨g, cap, hq, _⟩
      · omega
      · simp only [Value.slice.injEq] at hq
        exact ⟨g, hq.1⟩
    have hO5 : NoO B w5 (.slice (some ⟨g, 0, none⟩) (lg.length + 1) c6) (.slice sa st.length sc) (.slice va vs.length vc) (.slice na nx.length nc) (.slice ma mt.length mc) (lg ++ [(⟨t, k, d⟩ : En)]) st vs nx mt := NoO.log (unhide O4) hgrow5 (by unfold OwnE; rw [List.length_append, ensC_push]; exact hown5) hat5
    have hgb : g ≠ b := fun e => by
      rcases hat5 with h | h
      · exact unhide HAP (.slice la lg.length lc) (by simp) (by rw [← h, e]; rfl)
      · have : g = w4.heap.size := by simpa [Value.ownBlock] using h
        omega
    have hap5 : ∀ q, NoT [(.slice (some ⟨g, 0, none⟩) (lg.length + 1) c6), .slice sa st.length sc, .slice va vs.length vc, .slice na nx.length nc, .slice ma mt.length mc] q → q ≠ b := fun q hq e => by
      obtain ⟨v, hv, hvq⟩ := hq
      rcases List.mem_cons.1 hv with rfl | hv
      · have : q = g := by simp [Value.ownBlock] at hvq; omega
        omega
      · exact unhide HAP v (List.mem_cons_of_mem _ hv) (by rw [hvq, e])
    have T4 := (Touch.refl (fun q => (Value.slice la lg.length lc).ownBlock = some q) w4).grown hgrow5 (fun q e _ => e)
    have hlv : ∀ q, (Value.slice la lg.length lc).ownBlock = some q → q < w.heap.size := fun q e => (NoO.blk (unhide HO) q ⟨_, by simp, e⟩).2
    have X5 := ((unhide X2).below (unhide HB4)).kept T4 (fun e => unhide HAP _ (by simp) e)
    have L5 := ((unhide L2).below (unhide HB4)).kept T4 (fun e => by have := hlv _ e; omega)
    have E5 := ((unhide E2).below (unhide HB4)).kept T4 (fun e => by have := hlv _ e; omega)
    have T5 := hide ((((Touch.ofBelow (T := fun q => q = b ∨ (Value.slice la lg.length lc).ownBlock = some q) (unhide B2)).trans (T' := fun _ => False) (Touch.ofBelow (unhide HB4)) (fun _ _ e => e.elim)).grown hgrow5 (fun q e hq => .inr e)).setCell ⟨b, 3, none⟩ (.slice (some ⟨g, 0, none⟩) (lg.length + 1) c6) (fun _ => .inl rfl))
    have O6 := hide (NoO.keep hO5 ((Touch.refl (fun q => q = b) w5).setCell ⟨b, 3, none⟩ (.slice (some ⟨g, 0, none⟩) (lg.length + 1) c6) (fun _ => rfl)) hap5)
    have HA5 := hide hap5
    have X6 := hide (X5.set 3 (.slice (some ⟨g, 0, none⟩) (lg.length + 1) c6) (by simp))
    have u3 := X5.cell 3 rfl
    have f3 := X5.fro 3
    have L6 := hide (L5.other (C := b) 3 (.slice (some ⟨g, 0, none⟩) (lg.length + 1) c6) (fun e => by omega))
    have E6 := hide (E5.other (C := b) 3 (.slice (some ⟨g, 0, none⟩) (lg.length + 1) c6) (fun e => by omega))
    refine hK.out _ _ ?_ (fun hHeld => ?_)
    · exact ⟨L5.cell 0 rfl, E5.cell 0 rfl, E5.cell 1 rfl, E5.cell 2 rfl⟩
    clear hK K T4 X5 L5 E5 hown5 hgrow5 hat5 hO5 hap5 hlv O4
    (try simp only [Act.put, List.getElem_toArray, List.getElem_cons_succ, List.getElem_cons_zero, List.setIfInBounds_toArray, List.set_cons_zero, List.set_cons_succ])
    refine wpAnyH_take (i := 11) (oi := _) (v := ?_) rfl (by kernel_rfl) (by kernel_rfl) (by kernel_rfl) (fun _ _ _ h => h) (Or.inl ⟨by rfl, ?_⟩) (by assumption) ?_
    rotate_left 1
    · (intro wq hSw; (try dsimp only at hSw); (try simp only [List.getElem_toArray, List.getElem_cons_succ, List.getElem_cons_zero]); go_simp; try with_reducible rfl)
    (try simp only [Act.put, List.getElem_toArray, List.getElem_cons_succ, List.getElem_cons_zero, List.setIfInBounds_toArray, List.set_cons_zero, List.set_cons_succ])
    refine wpAnyH_take (i := 12) (oi := _) (v := ?_) rfl (by kernel_rfl) (by kernel_rfl) (by kernel_rfl) (fun _ _ _ h => h) (Or.inl ⟨by rfl, ?_⟩) (by assumption) ?_
    rotate_left 1
    · (intro wq hSw; (try dsimp only at hSw); (try simp only [List.getElem_toArray, List.getElem_cons_succ, List.getElem_cons_zero]); go_simp; try with_reducible rfl)
    (try simp only [Act.put, List.getElem_toArray, List.getElem_cons_succ, List.getElem_cons_zero, List.setIfInBounds_toArray, List.set_cons_zero, List.set_cons_succ])
    refine wpAnyH_take (i := 13) (oi := _) (v := ?_) rfl (by kernel_rfl) (by kernel_rfl) (by kernel_rfl) (fun _ _ _ h => h) (Or.inl ⟨by rfl, ?_⟩) (by assumption) ?_
    rotate_left 1
    · (intro wq hSw; (try dsimp only at hSw); (try simp only [List.getElem_toArray, List.getElem_cons_succ, List.getElem_cons_zero]); go_simp; try with_reducible rfl)
    (try simp only [Act.put, List.getElem_toArray, List.getElem_cons_succ, List.getElem_cons_zero, List.setIfInBounds_toArray, List.set_cons_zero, List.set_cons_succ])
    refine wpAnyH_ready (rs := [14]) (by kernel_rfl) (by simp) ?_
    refine AllReadyH.cons (o := _) rfl (fun K hK => ?_) AllReadyH.nil
    go_simp
    refine hK.out _ _ ?_ (fun hHeld => ?_)
    · exact ⟨(unhide L6).cell 0 rfl, (unhide E6).cell 0 rfl, (unhide E6).cell 1 rfl, (unhide E6).cell 2 rfl⟩
    clear hK K
    (try simp only [Act.put, List.getElem_toArray, List.getElem_cons_succ, List.getElem_cons_zero, List.setIfInBounds_toArray, List.set_cons_zero, List.set_cons_succ])
    refine wpAnyH_done (by kernel_rfl) (NoPanic.normal ?_) _
    generalize w5.setCell ⟨b, 3, none⟩ (.slice (some ⟨g, 0, none⟩) (lg.length + 1) c6) = w6 at *
    simp only [List.set_cons_succ, List.set_cons_zero] at X6
    have X6' := X6
    clear u3 f3 hbX z3 y3 X2 HB4 HR4 l0 e0 e1 e2 E6
    obtain ⟨hz, hd, hk2, hg, hst, hnx, hmt, hc, hnn⟩ := unhide HS
    have hlen : (lg ++ [(⟨t, k, d⟩ : En)]).length = lg.length + 1 := by simp
    have hg' := cfg_push hg (⟨t, k, d⟩ : En) hk2
    have hz' := size_push hz (⟨t, k, d⟩ : En) hd
    have hmb := mb_seven (lg ++ [(⟨t, k, d⟩ : En)]) st hg' hst
    have hnn' : ∀ x ∈ mbAt (lg ++ [(⟨t, k, d⟩ : En)]) st (lg ++ [(⟨t, k, d⟩ : En)]).length, 0 ≤ x ∧ x < 7 ∧ (x ≠ id → 1 ≤ nx.getD x.toNat 0 ∧ nx.getD x.toNat 0 ≤ ((lg ++ [(⟨t, k, d⟩ : En)]).length : Int) + 1) := fun x hx => ⟨(hmb.2 x hx).1, (hmb.2 x hx).2, fun _ => by have := hmb.2 x hx; have := hnn x.toNat (by omega); rw [hlen]; push_cast; omega⟩
    have hl60 : (lg ++ [(⟨t, k, d⟩ : En)]).length ≤ 60 := by rw [hlen]; omega
    rw [← hlen] at X6 O6 HA5
    have HU := hide hnn'
    have HV := hide (And.intro hg' (And.intro hz' (And.intro hmb (And.intro hl60 (And.intro hnx (And.intro hmt (And.intro hc hlen)))))))
    clear hz hd hk2 hg hst hnx hmt hc hnn hg' hz' hmb hnn' hl60 HS X6'
    generalize hlgN : lg ++ [(⟨t, k, d⟩ : En)] = lgN at *
    have HLG := hide hlgN
    clear hlgN
    obtain ⟨hg', hz', hmb, hl60, hnx, hmt, hc, hlen⟩ := unhide HV
    have HLEN := hide hlen
    have HCm := hide (commit_any B b id tm vo ro cm el wt up lgN st vs nx mt (some ⟨g, 0, none⟩) c6 sa sc va vc na nc ma mc (.slice none 0 0) w6 (unhide X6) (unhide O6).lg.ens (unhide O6).st (by have := (unhide T5).size; omega) (unhide O6).mt.ints hz' hl60 hg' hmt hmb.1 hmb.2 hc)
    have l0 := (unhide L6).cell 0 rfl
    have HV2 := hide (And.intro hg' (And.intro hz' (And.intro hmb (And.intro hl60 hnx))))
    generalize hcmN : advTo id tm cm lgN mt (mbAt lgN st lgN.length) lgN.length = cmN at *
    have HCM := hide hcmN
    clear hcmN
    clear hg' hz' hmb hl60 hnx hmt hc hlen HV HX HO HAP
    rw [← unhide HLEN]
    go_wp2_with fail
    refine (unhide HCm).mono ?_
    rintro e w7 ⟨⟨v7, rfl⟩, hX7, hT7⟩
    obtain ⟨hg', hz', hmb, hl60, hnx⟩ := unhide HV2
    have O7 := NoO.keep (unhide O6) hT7 (unhide HA5)
    have L7 := (unhide L6).kept hT7 (fun e => by have : b < w.heap.size := hbw; omega)
    have hs5 := (unhide T5).size
    have hs7 := hT7.size
    have HSn := hide (sendNews_any B b id tm vo ro cmN el wt up lgN st vs nx mt (some ⟨g, 0, none⟩) c6 sa sc va vc na nc ma mc w7 hX7 O7.lg.ens (fun e => unhide HA5 b ⟨_, by simp, e⟩ rfl) O7.st (by omega) (fun e => unhide HA5 b ⟨_, by simp, e⟩ rfl) O7.nx.ints (fun e => unhide HA5 b ⟨_, by simp, e⟩ rfl) hz' hl60 hg' hnx hmb.1 (unhide HU))
    have HO7 := hide O7
    have T7 := hide ((unhide T5).trans (T' := fun q => q = b) hT7 (fun _ _ e => .inl e))
    have l7 := L7.cell 0 rfl
    have hb7 : b < w7.heap.size := by omega
    have hw7 : w.heap.size ≤ w7.heap.size := by omega
    clear hX7 hT7 HCm O7 L7 l0 hg' hz' hmb hl60 hnx HV2 HU X6 L6 O6 T5
    go_wp2_with fail
    refine (unhide HSn).mono ?_
    rintro e w8 ⟨⟨v8, rfl⟩, v, l, hX8, hN8, hL8, hT8⟩
    have R8 := hide (And.intro hX8 (And.intro (NoO.keep (unhide HO7) hT8 (unhide HA5)) (And.intro hN8 (And.intro hL8 ((unhide T7).trans (T' := fun q => q = b) hT8 (fun _ _ e => .inl e))))))
    have HBk := hide (fun q hq => (NoO.blk (unhide HO7) q hq).2)
    clear hX8 hN8 hL8 hT8 HSn T7 HO7
    go_wp2_with fail
    go_ret
    refine ⟨rfl, ?_⟩
    unfold AddR
    rw [unhide HLG, unhide HCM]
    exact ⟨some ⟨g, 0, none⟩, c6, v, l, w7.heap.size, (unhide R8).1, (unhide R8).2.1, (unhide R8).2.2.1, (unhide R8).2.2.2.1, fun q hq => ⟨unhide HA5 q hq, unhide HBk q hq⟩, hb7, hw7, (unhide R8).2.2.2.2⟩
  · go_simp
    refine hK.out _ _ ?_ (fun hHeld => ?_)
    · exact ⟨(hbX.cell (p := ⟨w.heap.size, 0, none⟩) hl0).trans l0, (hbX.cell (p := ⟨w.heap.size + 1, 0, none⟩) he0).trans e0, (hbX.cell (p := ⟨w.heap.size + 1, 1, none⟩) he0).trans e1, (hbX.cell (p := ⟨w.heap.size + 1, 2, none⟩) he0).trans e2⟩
    clear hK K
    (try simp only [Act.put, List.getElem_toArray, List.getElem_cons_succ, List.getElem_cons_zero, List.setIfInBounds_toArray, List.set_cons_zero, List.set_cons_succ])
    refine wpAnyH_ready (rs := [7]) (by kernel_rfl) (by simp) ?_
    refine AllReadyH.cons (o := _) rfl (fun K hK => ?_) AllReadyH.nil
    go_simp
    refine hK.out _ _ ?_ (fun hHeld => ?_)
    · exact ⟨(hbX.cell (p := ⟨w.heap.size, 0, none⟩) hl0).trans l0, (hbX.cell (p := ⟨w.heap.size + 1, 0, none⟩) he0).trans e0, (hbX.cell (p := ⟨w.heap.size + 1, 1, none⟩) he0).trans e1, (hbX.cell (p := ⟨w.heap.size + 1, 2, none⟩) he0).trans e2⟩
    clear hK K
    (try simp only [Act.put, List.getElem_toArray, List.getElem_cons_succ, List.getElem_cons_zero, List.setIfInBounds_toArray, List.set_cons_zero, List.set_cons_succ])
    generalize wz.alloc (.cells #[.int .i64 t, .int .i64 k, .string d] 63) = w4 at *
    have O4 := hide ((unhide HO).below (unhide B2) |>.below (unhide HB4))
    have hs2 := (unhide B2).size
    have hs4 := (unhide HB4).size
    refine wpAnyH_ready (rs := [10]) (by kernel_rfl) (by simp) ?_
    refine AllReadyH.cons (o := _) rfl (fun K hK => ?_) AllReadyH.nil
    refine step_append_row rfl _ _ _ rfl B 63 i0 _ 3 32 Try.underlying27 hi hz0 hz1 hz2 rfl (by omega) (.slice la lg.length lc) lg.length _ rfl (unhide O4).lg _ 1 [.int .i64 t, .int .i64 k, .string d] rfl (unhide HR4) rfl (by simp [Value.oneCell']) (by unfold maxLen; omega) (by omega) (by omega) ?_
    intro a6 c6 w5 hown5 hgrow5 hat5
    obtain ⟨g, rfl⟩ : ∃ g, a6 = some ⟨g, 0, none⟩ := by
      rcases own_shape hown5 with ⟨_, h0⟩ | ⟨g, cap, hq, _⟩
      · omega
      · simp only [Value.slice.injEq] at hq
        exact ⟨g, hq.1⟩
    have hO5 : NoO B w5 (.slice (some ⟨g, 0, none⟩) (lg.length + 1) c6) (.slice sa st.length sc) (.slice va vs.length vc) (.slice na nx.length nc) (.slice ma mt.length mc) (lg ++ [(⟨t, k, d⟩ : En)]) st vs nx mt := NoO.log (unhide O4) hgrow5 (by unfold OwnE; rw [List.length_append, ensC_push]; exact hown5) hat5
    have hgb : g ≠ b := fun e => by
      rcases hat5 with h | h
      · exact unhide HAP (.slice la lg.length lc) (by simp) (by rw [← h, e]; rfl)
      · have : g = w4.heap.size := by simpa [Value.ownBlock] using h
        omega
    have hap5 : ∀ q, NoT [(.slice (some ⟨g, 0, none⟩) (lg.length + 1) c6), .slice sa st.length sc, .slice va vs.length vc, .slice na nx.length nc, .slice ma mt.length mc] q → q ≠ b := fun q hq e => by
      obtain ⟨v, hv, hvq⟩ := hq
      rcases List.mem_cons.1 hv with rfl | hv
      · have : q = g := by simp [Value.ownBlock] at hvq; omega
        omega
      · exact unhide HAP v (List.mem_cons_of_mem _ hv) (by rw [hvq, e])
    have T4 := (Touch.refl (fun q => (Value.slice la lg.length lc).ownBlock = some q) w4).grown hgrow5 (fun q e _ => e)
    have hlv : ∀ q, (Value.slice la lg.length lc).ownBlock = some q → q < w.heap.size := fun q e => (NoO.blk (unhide HO) q ⟨_, by simp, e⟩).2
    have X5 := ((unhide X2).below (unhide HB4)).kept T4 (fun e => unhide HAP _ (by simp) e)
    have L5 := ((unhide L2).below (unhide HB4)).kept T4 (fun e => by have := hlv _ e; omega)
    have E5 := ((unhide E2).below (unhide HB4)).kept T4 (fun e => by have := hlv _ e; omega)
    have T5 := hide ((((Touch.ofBelow (T := fun q => q = b ∨ (Value.slice la lg.length lc).ownBlock = some q) (unhide B2)).trans (T' := fun _ => False) (Touch.ofBelow (unhide HB4)) (fun _ _ e => e.elim)).grown hgrow5 (fun q e hq => .inr e)).setCell ⟨b, 3, none⟩ (.slice (some ⟨g, 0, none⟩) (lg.length + 1) c6) (fun _ => .inl rfl))
    have O6 := hide (NoO.keep hO5 ((Touch.refl (fun q => q = b) w5).setCell ⟨b, 3, none⟩ (.slice (some ⟨g, 0, none⟩) (lg.length + 1) c6) (fun _ => rfl)) hap5)
    have HA5 := hide hap5
    have X6 := hide (X5.set 3 (.slice (some ⟨g, 0, none⟩) (lg.length + 1) c6) (by simp))
    have u3 := X5.cell 3 rfl
    have f3 := X5.fro 3
    have L6 := hide (L5.other (C := b) 3 (.slice (some ⟨g, 0, none⟩) (lg.length + 1) c6) (fun e => by omega))
    have E6 := hide (E5.other (C := b) 3 (.slice (some ⟨g, 0, none⟩) (lg.length + 1) c6) (fun e => by omega))
    refine hK.out _ _ ?_ (fun hHeld => ?_)
    · exact ⟨L5.cell 0 rfl, E5.cell 0 rfl, E5.cell 1 rfl, E5.cell 2 rfl⟩
    clear hK K T4 X5 L5 E5 hown5 hgrow5 hat5 hO5 hap5 hlv O4
    (try simp only [Act.put, List.getElem_toArray, List.getElem_cons_succ, List.getElem_cons_zero, List.setIfInBounds_toArray, List.set_cons_zero, List.set_cons_succ])
    refine wpAnyH_take (i := 11) (oi := _) (v := ?_) rfl (by kernel_rfl) (by kernel_rfl) (by kernel_rfl) (fun _ _ _ h => h) (Or.inl ⟨by rfl, ?_⟩) (by assumption) ?_
    rotate_left 1
    · (intro wq hSw; (try dsimp only at hSw); (try simp only [List.getElem_toArray, List.getElem_cons_succ, List.getElem_cons_zero]); go_simp; try with_reducible rfl)
    (try simp only [Act.put, List.getElem_toArray, List.getElem_cons_succ, List.getElem_cons_zero, List.setIfInBounds_toArray, List.set_cons_zero, List.set_cons_succ])
    refine wpAnyH_take (i := 12) (oi := _) (v := ?_) rfl (by kernel_rfl) (by kernel_rfl) (by kernel_rfl) (fun _ _ _ h => h) (Or.inl ⟨by rfl, ?_⟩) (by assumption) ?_
    rotate_left 1
    · (intro wq hSw; (try dsimp only at hSw); (try simp only [List.getElem_toArray, List.getElem_cons_succ, List.getElem_cons_zero]); go_simp; try with_reducible rfl)
    (try simp only [Act.put, List.getElem_toArray, List.getElem_cons_succ, List.getElem_cons_zero, List.setIfInBounds_toArray, List.set_cons_zero, List.set_cons_succ])
    refine wpAnyH_take (i := 13) (oi := _) (v := ?_) rfl (by kernel_rfl) (by kernel_rfl) (by kernel_rfl) (fun _ _ _ h => h) (Or.inl ⟨by rfl, ?_⟩) (by assumption) ?_
    rotate_left 1
    · (intro wq hSw; (try dsimp only at hSw); (try simp only [List.getElem_toArray, List.getElem_cons_succ, List.getElem_cons_zero]); go_simp; try with_reducible rfl)
    (try simp only [Act.put, List.getElem_toArray, List.getElem_cons_succ, List.getElem_cons_zero, List.setIfInBounds_toArray, List.set_cons_zero, List.set_cons_succ])
    refine wpAnyH_ready (rs := [14]) (by kernel_rfl) (by simp) ?_
    refine AllReadyH.cons (o := _) rfl (fun K hK => ?_) AllReadyH.nil
    go_simp
    refine hK.out _ _ ?_ (fun hHeld => ?_)
    · exact ⟨(unhide L6).cell 0 rfl, (unhide E6).cell 0 rfl, (unhide E6).cell 1 rfl, (unhide E6).cell 2 rfl⟩
    clear hK K
    (try simp only [Act.put, List.getElem_toArray, List.getElem_cons_succ, List.getElem_cons_zero, List.setIfInBounds_toArray, List.set_cons_zero, List.set_cons_succ])
    refine wpAnyH_done (by kernel_rfl) (NoPanic.normal ?_) _
    generalize w5.setCell ⟨b, 3, none⟩ (.slice (some ⟨g, 0, none⟩) (lg.length + 1) c6) = w6 at *
    simp only [List.set_cons_succ, List.set_cons_zero] at X6
    have X6' := X6
    clear u3 f3 hbX z3 y3 X2 HB4 HR4 l0 e0 e1 e2 E6
    obtain ⟨hz, hd, hk2, hg, hst, hnx, hmt, hc, hnn⟩ := unhide HS
    have hlen : (lg ++ [(⟨t, k, d⟩ : En)]).length = lg.length + 1 := by simp
    have hg' := cfg_push hg (⟨t, k, d⟩ : En) hk2
    have hz' := size_push hz (⟨t, k, d⟩ : En) hd
    have hmb := mb_seven (lg ++ [(⟨t, k, d⟩ : En)]) st hg' hst
    have hnn' : ∀ x ∈ mbAt (lg ++ [(⟨t, k, d⟩ : En)]) st (lg ++ [(⟨t, k, d⟩ : En)]).length, 0 ≤ x ∧ x < 7 ∧ (x ≠ id → 1 ≤ nx.getD x.toNat 0 ∧ nx.getD x.toNat 0 ≤ ((lg ++ [(⟨t, k, d⟩ : En)]).length : Int) + 1) := fun x hx => ⟨(hmb.2 x hx).1, (hmb.2 x hx).2, fun _ => by have := hmb.2 x hx; have := hnn x.toNat (by omega); rw [hlen]; push_cast; omega⟩
    have hl60 : (lg ++ [(⟨t, k, d⟩ : En)]).length ≤ 60 := by rw [hlen]; omega
    rw [← hlen] at X6 O6 HA5
    have HU := hide hnn'
    have HV := hide (And.intro hg' (And.intro hz' (And.intro hmb (And.intro hl60 (And.intro hnx (And.intro hmt (And.intro hc hlen)))))))
    clear hz hd hk2 hg hst hnx hmt hc hnn hg' hz' hmb hnn' hl60 HS X6'
    generalize hlgN : lg ++ [(⟨t, k, d⟩ : En)] = lgN at *
    have HLG := hide hlgN
    clear hlgN
    obtain ⟨hg', hz', hmb, hl60, hnx, hmt, hc, hlen⟩ := unhide HV
    have HLEN := hide hlen
    have HCm := hide (commit_any B b id tm vo ro cm el wt up lgN st vs nx mt (some ⟨g, 0, none⟩) c6 sa sc va vc na nc ma mc (.slice none 0 0) w6 (unhide X6) (unhide O6).lg.ens (unhide O6).st (by have := (unhide T5).size; omega) (unhide O6).mt.ints hz' hl60 hg' hmt hmb.1 hmb.2 hc)
    have l0 := (unhide L6).cell 0 rfl
    have HV2 := hide (And.intro hg' (And.intro hz' (And.intro hmb (And.intro hl60 hnx))))
    generalize hcmN : advTo id tm cm lgN mt (mbAt lgN st lgN.length) lgN.length = cmN at *
    have HCM := hide hcmN
    clear hcmN
    clear hg' hz' hmb hl60 hnx hmt hc hlen HV HX HO HAP
    rw [← unhide HLEN]
    go_wp2_with fail
    refine (unhide HCm).mono ?_
    rintro e w7 ⟨⟨v7, rfl⟩, hX7, hT7⟩
    obtain ⟨hg', hz', hmb, hl60, hnx⟩ := unhide HV2
    have O7 := NoO.keep (unhide O6) hT7 (unhide HA5)
    have L7 := (unhide L6).kept hT7 (fun e => by have : b < w.heap.size := hbw; omega)
    have hs5 := (unhide T5).size
    have hs7 := hT7.size
    have HSn := hide (sendNews_any B b id tm vo ro cmN el wt up lgN st vs nx mt (some ⟨g, 0, none⟩) c6 sa sc va vc na nc ma mc w7 hX7 O7.lg.ens (fun e => unhide HA5 b ⟨_, by simp, e⟩ rfl) O7.st (by omega) (fun e => unhide HA5 b ⟨_, by simp, e⟩ rfl) O7.nx.ints (fun e => unhide HA5 b ⟨_, by simp, e⟩ rfl) hz' hl60 hg' hnx hmb.1 (unhide HU))
    have HO7 := hide O7
    have T7 := hide ((unhide T5).trans (T' := fun q => q = b) hT7 (fun _ _ e => .inl e))
    have l7 := L7.cell 0 rfl
    have hb7 : b < w7.heap.size := by omega
    have hw7 : w.heap.size ≤ w7.heap.size := by omega
    clear hX7 hT7 HCm O7 L7 l0 hg' hz' hmb hl60 hnx HV2 HU X6 L6 O6 T5
    go_wp2_with fail
    refine (unhide HSn).mono ?_
    rintro e w8 ⟨⟨v8, rfl⟩, v, l, hX8, hN8, hL8, hT8⟩
    have R8 := hide (And.intro hX8 (And.intro (NoO.keep (unhide HO7) hT8 (unhide HA5)) (And.intro hN8 (And.intro hL8 ((unhide T7).trans (T' := fun q => q = b) hT8 (fun _ _ e => .inl e))))))
    have HBk := hide (fun q hq => (NoO.blk (unhide HO7) q hq).2)
    clear hX8 hN8 hL8 hT8 HSn T7 HO7
    go_wp2_with fail
    go_ret
    refine ⟨rfl, ?_⟩
    unfold AddR
    rw [unhide HLG, unhide HCM]
    exact ⟨some ⟨g, 0, none⟩, c6, v, l, w7.heap.size, (unhide R8).1, (unhide R8).2.1, (unhide R8).2.2.1, (unhide R8).2.2.2.1, fun q hq => ⟨unhide HA5 q hq, unhide HBk q hq⟩, hb7, hw7, (unhide R8).2.2.2.2⟩
end Go.Proofs.Ytljolldacpkeeaa
