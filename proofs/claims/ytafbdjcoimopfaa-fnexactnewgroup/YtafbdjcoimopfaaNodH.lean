/- impl.freshNode, walked. (Written by py/nodh.py.) -/
import Derived.Test.YtafbdjcoimopfaaNodF
namespace Go.Proofs.Ytafbdjcoimopfaa
open Go.ChangeShapes Go.WideShapes Go.ChangeAt Go.RowKit Go.Deep
set_option linter.unusedVariables false
theorem own_seven (w : World) (B X : Nat) (hX : w.heap.size = X) (hB : B ≤ X) : OwnI B (w.alloc (.cells #[.int .i64 0, .int .i64 0, .int .i64 0, .int .i64 0, .int .i64 0, .int .i64 0, .int .i64 0] 3)) (.slice (some ⟨X, 0, none⟩) 7 7) (List.replicate 7 0) :=
  ⟨rfl, .inr ⟨X, 7, #[.int .i64 0, .int .i64 0, .int .i64 0, .int .i64 0, .int .i64 0, .int .i64 0, .int .i64 0], rfl, hB, by subst hX; exact heap_alloc_new w _, Nat.le_refl _, by unfold maxLen; omega, rfl, rfl⟩⟩
set_option maxRecDepth 100000 in
set_option maxHeartbeats 4000000 in
theorem freshNode_any (id tm vo ro cm el wt : Int) (up : Bool) (lg : List En) (st vs nx mt : List Int) (la : Option Addr) (lc : Nat) (sa : Option Addr) (sc : Nat) (va : Option Addr) (vc : Nat) (na : Option Addr) (nc : Nat) (ma : Option Addr) (mc : Nat) (w : World) (h : NoR w (.slice la lg.length lc) (.slice sa st.length sc) (.slice va vs.length vc) (.slice na nx.length nc) (.slice ma mt.length mc) lg st vs nx mt) (z0 : lg.length ≤ 4096) (z1 : st.length ≤ 4096) (z2 : vs.length ≤ 4096) (z3 : nx.length ≤ 4096) (z4 : mt.length ≤ 4096) :
    Calls Try.prog 80 #[.agg #[.int .i64 id, .int .i64 tm, .int .i64 vo, .slice la lg.length lc, .slice sa st.length sc, .int .i64 ro, .slice va vs.length vc, .slice na nx.length nc, .slice ma mt.length mc, .int .i64 cm, .int .i64 el, .int .i64 wt, .bool up]] w fun e w' => ∃ la' lc' sa' sc' gn gm, e = .returned (.agg #[.int .i64 id, .int .i64 tm, .int .i64 vo, .slice la' lg.length lc', .slice sa' st.length sc', .int .i64 0, .slice none 0 0, .slice (some ⟨gn, 0, none⟩) 7 7, .slice (some ⟨gm, 0, none⟩) 7 7, .int .i64 cm, .int .i64 el, .int .i64 wt, .bool up]) ∧ NoO w.heap.size w' (.slice la' lg.length lc') (.slice sa' st.length sc') (.slice none 0 0) (.slice (some ⟨gn, 0, none⟩) 7 7) (.slice (some ⟨gm, 0, none⟩) 7 7) lg st [] (List.replicate 7 1) (List.replicate 7 0) ∧ Below w.heap.size w w' := by
  have HB := hide (((Below.refl w.heap.size w).alloc (Nat.le_refl _) (.cells #[.int .i64 id, .int .i64 tm, .int .i64 vo, .slice la lg.length lc, .slice sa st.length sc, .int .i64 ro, .slice va vs.length vc, .slice na nx.length nc, .slice ma mt.length mc, .int .i64 cm, .int .i64 el, .int .i64 wt, .bool up] 42)).alloc (by simp) (.cells #[.int .i64 0, .int .i64 0, .int .i64 0, .slice none 0 0, .slice none 0 0, .int .i64 0, .slice none 0 0, .slice none 0 0, .slice none 0 0, .int .i64 0, .int .i64 0, .int .i64 0, .bool false] 42))
  have HR := hide (Blk.new (w.alloc (.cells #[.int .i64 id, .int .i64 tm, .int .i64 vo, .slice la lg.length lc, .slice sa st.length sc, .int .i64 ro, .slice va vs.length vc, .slice na nx.length nc, .slice ma mt.length mc, .int .i64 cm, .int .i64 el, .int .i64 wt, .bool up] 42)) #[.int .i64 0, .int .i64 0, .int .i64 0, .slice none 0 0, .slice none 0 0, .int .i64 0, .slice none 0 0, .slice none 0 0, .slice none 0 0, .int .i64 0, .int .i64 0, .int .i64 0, .bool false] 42 (w.heap.size + 1) (by simp))
  have HQ := hide (fun wx (hx : Below w.heap.size w wx) => newActor_any id tm vo ro cm el wt up lg st vs nx mt la lc sa sc va vc na nc ma mc wx (h.below hx) z0 z1 z2 z3 z4)
  have HZ := hide (show w.heap.size + 2 ≤ ((w.alloc (.cells #[.int .i64 id, .int .i64 tm, .int .i64 vo, .slice la lg.length lc, .slice sa st.length sc, .int .i64 ro, .slice va vs.length vc, .slice na nx.length nc, .slice ma mt.length mc, .int .i64 cm, .int .i64 el, .int .i64 wt, .bool up] 42)).alloc (.cells #[.int .i64 0, .int .i64 0, .int .i64 0, .slice none 0 0, .slice none 0 0, .int .i64 0, .slice none 0 0, .slice none 0 0, .slice none 0 0, .int .i64 0, .int .i64 0, .int .i64 0, .bool false] 42)).heap.size by simp)
  clear h z0 z1 z2 z3 z4
  go_enter Try.func80, Try.ntmps80
  go_wp2_with fail
  generalize (w.alloc (.cells #[.int .i64 id, .int .i64 tm, .int .i64 vo, .slice la lg.length lc, .slice sa st.length sc, .int .i64 ro, .slice va vs.length vc, .slice na nx.length nc, .slice ma mt.length mc, .int .i64 cm, .int .i64 el, .int .i64 wt, .bool up] 42)).alloc (.cells #[.int .i64 0, .int .i64 0, .int .i64 0, .slice none 0 0, .slice none 0 0, .int .i64 0, .slice none 0 0, .slice none 0 0, .slice none 0 0, .int .i64 0, .int .i64 0, .int .i64 0, .bool false] 42) = w0 at *
  refine (unhide HQ w0 (unhide HB)).mono ?_
  rintro e w1 ⟨b, la', lc', sa', sc', va', vc', na', nc', ma', mc', rfl, hA, hb⟩
  have hz := unhide HZ
  have hbs := hb.size
  have hbl := hA.bk.1
  have hlo := hA.lo
  have HA := hide hA
  have K1 := hide ((unhide HB).trans (hb.mono (unhide HB).size))
  have HR1 := hide ((unhide HR).below hb)
  have M2 := Blk.alloc (Blk.alloc hA.bk (.cells #[.int .i64 0, .int .i64 0, .int .i64 0, .int .i64 0, .int .i64 0, .int .i64 0, .int .i64 0] 3)) (.cells #[.int .i64 0, .int .i64 0, .int .i64 0, .int .i64 0, .int .i64 0, .int .i64 0, .int .i64 0] 3)
  have m7 := M2.cell 7 rfl
  have m8 := M2.cell 8 rfl
  have n7 := M2.fro 7
  have n8 := M2.fro 8
  have M1 := Blk.alloc hA.bk (.cells #[.int .i64 0, .int .i64 0, .int .i64 0, .int .i64 0, .int .i64 0, .int .i64 0, .int .i64 0] 3)
  have s7 := M1.cell 7 rfl
  have t7 := M1.fro 7
  clear M1
  have P0 := Blk.alloc (Blk.alloc (hA.bk.set 7 (.slice (some ⟨w1.heap.size, 0, none⟩) 7 7) (by simp)) (.cells #[.int .i64 0, .int .i64 0, .int .i64 0, .int .i64 0, .int .i64 0, .int .i64 0, .int .i64 0] 3)) (.cells #[.int .i64 0, .int .i64 0, .int .i64 0, .int .i64 0, .int .i64 0, .int .i64 0, .int .i64 0] 3)
  have P1 := Blk.alloc (Blk.alloc (hA.bk.set 7 (.slice (some ⟨w1.heap.size + 1, 0, none⟩) 7 7) (by simp)) (.cells #[.int .i64 0, .int .i64 0, .int .i64 0, .int .i64 0, .int .i64 0, .int .i64 0, .int .i64 0] 3)) (.cells #[.int .i64 0, .int .i64 0, .int .i64 0, .int .i64 0, .int .i64 0, .int .i64 0, .int .i64 0] 3)
  have p8 := P0.cell 8 rfl
  have q8 := P0.fro 8
  have p9 := P1.cell 8 rfl
  have q9 := P1.fro 8
  clear P0 P1 M2
  have hmk : ∀ w : World, (Instr.makeSlice 34 (.int .i64 7) (.int .i64 7)).run Try.prog w = .ok (.slice (some ⟨w.heap.size, 0, none⟩) 7 7) (w.alloc (.cells #[.int .i64 0, .int .i64 0, .int .i64 0, .int .i64 0, .int .i64 0, .int .i64 0, .int .i64 0] 3)) := fun _ => by kernel_rfl
  clear hA hb HB HR HQ
  go_wp2_with fail
  go_big_region
  · obtain ⟨gn, hgn⟩ : ∃ gn, gn = w1.heap.size := ⟨_, rfl⟩
    obtain ⟨gm, hgm⟩ : ∃ gm, gm = w1.heap.size + 1 := ⟨_, rfl⟩
    have hX : ((w1.setCell ⟨b, 7, none⟩ (.slice (some ⟨w1.heap.size, 0, none⟩) 7 7)).setCell ⟨b, 8, none⟩ (.slice (some ⟨w1.heap.size + 1, 0, none⟩) 7 7)).heap.size = w1.heap.size := by simp
    have T := (((((Touch.refl (fun q => q = b) w1).setCell ⟨b, 7, none⟩ (.slice (some ⟨w1.heap.size, 0, none⟩) 7 7) (fun _ => rfl)).setCell ⟨b, 8, none⟩ (.slice (some ⟨w1.heap.size + 1, 0, none⟩) 7 7) (fun _ => rfl)).alloc (.cells #[.int .i64 0, .int .i64 0, .int .i64 0, .int .i64 0, .int .i64 0, .int .i64 0, .int .i64 0] 3)).alloc (.cells #[.int .i64 0, .int .i64 0, .int .i64 0, .int .i64 0, .int .i64 0, .int .i64 0, .int .i64 0] 3)).drew
    have hA := unhide HA
    have O1 := ((own_seven ((w1.setCell ⟨b, 7, none⟩ (.slice (some ⟨w1.heap.size, 0, none⟩) 7 7)).setCell ⟨b, 8, none⟩ (.slice (some ⟨w1.heap.size + 1, 0, none⟩) 7 7)) w.heap.size w1.heap.size hX (by omega)).kept (((Touch.refl (fun _ => False) _).alloc (.cells #[.int .i64 0, .int .i64 0, .int .i64 0, .int .i64 0, .int .i64 0, .int .i64 0, .int .i64 0] 3)).drew) (fun _ _ e => e))
    have O2 := ((own_seven (((w1.setCell ⟨b, 7, none⟩ (.slice (some ⟨w1.heap.size, 0, none⟩) 7 7)).setCell ⟨b, 8, none⟩ (.slice (some ⟨w1.heap.size + 1, 0, none⟩) 7 7)).alloc (.cells #[.int .i64 0, .int .i64 0, .int .i64 0, .int .i64 0, .int .i64 0, .int .i64 0, .int .i64 0] 3)) w.heap.size (w1.heap.size + 1) (by simp) (by omega)).kept ((Touch.refl (fun _ => False) _).drew) (fun _ _ e => e))
    have X2 := (((((hA.bk.set 7 (.slice (some ⟨w1.heap.size, 0, none⟩) 7 7) (by simp)).set 8 (.slice (some ⟨w1.heap.size + 1, 0, none⟩) 7 7) (by simp)).alloc (.cells #[.int .i64 0, .int .i64 0, .int .i64 0, .int .i64 0, .int .i64 0, .int .i64 0, .int .i64 0] 3)).alloc (.cells #[.int .i64 0, .int .i64 0, .int .i64 0, .int .i64 0, .int .i64 0, .int .i64 0, .int .i64 0] 3)).drewN 1)
    simp only [List.set_cons_succ, List.set_cons_zero] at X2
    have R2 := (unhide HR1).kept T (fun e => by omega)
    have K2 := hide ((((((unhide K1).setCell (p := ⟨b, 7, none⟩) (by simp; omega) (.slice (some ⟨w1.heap.size, 0, none⟩) 7 7)).setCell (p := ⟨b, 8, none⟩) (by simp; omega) (.slice (some ⟨w1.heap.size + 1, 0, none⟩) 7 7)).alloc (by rw [hX]; omega) (.cells #[.int .i64 0, .int .i64 0, .int .i64 0, .int .i64 0, .int .i64 0, .int .i64 0, .int .i64 0] 3)).alloc (by simp; omega) (.cells #[.int .i64 0, .int .i64 0, .int .i64 0, .int .i64 0, .int .i64 0, .int .i64 0, .int .i64 0] 3)).drew)
    have nl := World.ownsRow_monoE (hA.no.lg.kept T (fun k hk e => hA.ap (.slice la' lg.length lc') (by simp) (by rw [hk, e]))) (show w.heap.size ≤ w0.heap.size by omega)
    have ns := (hA.no.st.kept T (fun k hk e => hA.ap (.slice sa' st.length sc') (by simp) (by rw [hk, e]))).mono (show w.heap.size ≤ w0.heap.size by omega)
    have il := World.ownsRow.lt hA.no.lg
    have is_ := hA.no.st.lt
    have hap := (List.pairwise_cons.1 hA.no.ap).1 _ (List.mem_cons_self ..)
    have HI := hide (And.intro il (And.intro is_ (And.intro hap (And.intro hA.ap (And.intro hlo (And.intro hbl (And.intro hz hbs)))))))
    have HNL := hide (And.intro nl ns)
    have HS2 := hide (show (((((w1.setCell ⟨b, 7, none⟩ (.slice (some ⟨w1.heap.size, 0, none⟩) 7 7)).setCell ⟨b, 8, none⟩ (.slice (some ⟨w1.heap.size + 1, 0, none⟩) 7 7)).alloc (.cells #[.int .i64 0, .int .i64 0, .int .i64 0, .int .i64 0, .int .i64 0, .int .i64 0, .int .i64 0] 3)).alloc (.cells #[.int .i64 0, .int .i64 0, .int .i64 0, .int .i64 0, .int .i64 0, .int .i64 0, .int .i64 0] 3)).drew).heap.size = w1.heap.size + 2 by simp)
    have HF := hide (follow_any w.heap.size b (w1.heap.size) 7 (w1.heap.size + 1) 7 id tm vo ro cm el wt up (.slice la' lg.length lc') (.slice sa' st.length sc') _ _ _ (((((w1.setCell ⟨b, 7, none⟩ (.slice (some ⟨w1.heap.size, 0, none⟩) 7 7)).setCell ⟨b, 8, none⟩ (.slice (some ⟨w1.heap.size + 1, 0, none⟩) 7 7)).alloc (.cells #[.int .i64 0, .int .i64 0, .int .i64 0, .int .i64 0, .int .i64 0, .int .i64 0, .int .i64 0] 3)).alloc (.cells #[.int .i64 0, .int .i64 0, .int .i64 0, .int .i64 0, .int .i64 0, .int .i64 0, .int .i64 0] 3)).drew) X2 (by simp) (by simp) O1 O2 (by omega) (by omega) (by omega))
    have HR2 := hide R2
    clear m7 m8 n7 n8 p8 q8 p9 q9 s7 t7 hmk X2 R2 O1 O2 T nl ns il is_ hap hA HA K1 HR1 hX hz hbs hbl hlo
    go_wp2_with fail
    generalize (((((w1.setCell ⟨b, 7, none⟩ (.slice (some ⟨w1.heap.size, 0, none⟩) 7 7)).setCell ⟨b, 8, none⟩ (.slice (some ⟨w1.heap.size + 1, 0, none⟩) 7 7)).alloc (.cells #[.int .i64 0, .int .i64 0, .int .i64 0, .int .i64 0, .int .i64 0, .int .i64 0, .int .i64 0] 3)).alloc (.cells #[.int .i64 0, .int .i64 0, .int .i64 0, .int .i64 0, .int .i64 0, .int .i64 0, .int .i64 0] 3)).drew) = w2 at *
    rw [← hgm, ← hgn] at HF
    have HG := hide (And.intro hgn hgm)
    clear hgn hgm
    refine (unhide HF).mono ?_
    rintro e w3 ⟨⟨v3, rfl⟩, hB3, r1, r2, hT⟩
    obtain ⟨il, is_, hap, ha, hlo, hbl, hz, hbs⟩ := unhide HI
    obtain ⟨hgn, hgm⟩ := unhide HG
    have hs2 := unhide HS2
    have R3 := (unhide HR2).kept hT (fun e => by omega)
    have tT : ∀ v : Value, (∀ k, v.ownBlock = some k → w0.heap.size ≤ k ∧ k < w1.heap.size) → v.ownBlock ≠ some b → ∀ k, v.ownBlock = some k → ¬ (k = b ∨ k = gn ∨ k = gm) := fun v h1 h2 k hk e => by
      have := h1 k hk
      rcases e with e | e | e
      · exact h2 (by rw [hk, e])
      · omega
      · omega
    have nl := (unhide HNL).1
    have nl2 := OwnE.kept nl hT (tT (.slice la' lg.length lc') il (ha (.slice la' lg.length lc') (by simp)))
    have ns2 := (unhide HNL).2.kept hT (tT (.slice sa' st.length sc') is_ (ha (.slice sa' st.length sc') (by simp)))
    have K3 := (unhide K2).trans (hT.below (by omega) (fun k hk e => by omega))
    have o0 := hB3.cell 0 rfl
    have o1 := hB3.cell 1 rfl
    have o2 := hB3.cell 2 rfl
    have o3 := hB3.cell 3 rfl
    have o4 := hB3.cell 4 rfl
    have o5 := hB3.cell 5 rfl
    have o6 := hB3.cell 6 rfl
    have o7 := hB3.cell 7 rfl
    have o8 := hB3.cell 8 rfl
    have o9 := hB3.cell 9 rfl
    have o10 := hB3.cell 10 rfl
    have o11 := hB3.cell 11 rfl
    have o12 := hB3.cell 12 rfl
    have r0_ := R3.cell 0 rfl
    have fr0 := R3.fro 0
    have r1_ := R3.cell 1 rfl
    have fr1 := R3.fro 1
    have r2_ := R3.cell 2 rfl
    have fr2 := R3.fro 2
    have r3_ := R3.cell 3 rfl
    have fr3 := R3.fro 3
    have r4_ := R3.cell 4 rfl
    have fr4 := R3.fro 4
    have r5_ := R3.cell 5 rfl
    have fr5 := R3.fro 5
    have r6_ := R3.cell 6 rfl
    have fr6 := R3.fro 6
    have r7_ := R3.cell 7 rfl
    have fr7 := R3.fro 7
    have r8_ := R3.cell 8 rfl
    have fr8 := R3.fro 8
    have r9_ := R3.cell 9 rfl
    have fr9 := R3.fro 9
    have r10_ := R3.cell 10 rfl
    have fr10 := R3.fro 10
    have r11_ := R3.cell 11 rfl
    have fr11 := R3.fro 11
    have r12_ := R3.cell 12 rfl
    have fr12 := R3.fro 12
    have R9 := (((((((((((((R3.set 0 (.int .i64 id) (by simp)).set 1 (.int .i64 tm) (by simp)).set 2 (.int .i64 vo) (by simp)).set 3 (.slice la' lg.length lc') (by simp)).set 4 (.slice sa' st.length sc') (by simp)).set 5 (.int .i64 0) (by simp)).set 6 (.slice none 0 0) (by simp)).set 7 (.slice (some ⟨gn, 0, none⟩) 7 7) (by simp)).set 8 (.slice (some ⟨gm, 0, none⟩) 7 7) (by simp)).set 9 (.int .i64 cm) (by simp)).set 10 (.int .i64 el) (by simp)).set 11 (.int .i64 wt) (by simp)).set 12 (.bool up) (by simp))
    have B9 := hide (((((((((((((K3.setCell (p := ⟨w.heap.size + 1, 0, none⟩) (by simp) (.int .i64 id)).setCell (p := ⟨w.heap.size + 1, 1, none⟩) (by simp) (.int .i64 tm)).setCell (p := ⟨w.heap.size + 1, 2, none⟩) (by simp) (.int .i64 vo)).setCell (p := ⟨w.heap.size + 1, 3, none⟩) (by simp) (.slice la' lg.length lc')).setCell (p := ⟨w.heap.size + 1, 4, none⟩) (by simp) (.slice sa' st.length sc')).setCell (p := ⟨w.heap.size + 1, 5, none⟩) (by simp) (.int .i64 0)).setCell (p := ⟨w.heap.size + 1, 6, none⟩) (by simp) (.slice none 0 0)).setCell (p := ⟨w.heap.size + 1, 7, none⟩) (by simp) (.slice (some ⟨gn, 0, none⟩) 7 7)).setCell (p := ⟨w.heap.size + 1, 8, none⟩) (by simp) (.slice (some ⟨gm, 0, none⟩) 7 7)).setCell (p := ⟨w.heap.size + 1, 9, none⟩) (by simp) (.int .i64 cm)).setCell (p := ⟨w.heap.size + 1, 10, none⟩) (by simp) (.int .i64 el)).setCell (p := ⟨w.heap.size + 1, 11, none⟩) (by simp) (.int .i64 wt)).setCell (p := ⟨w.heap.size + 1, 12, none⟩) (by simp) (.bool up))
    have T9 := ((((((((((((((Touch.refl (fun q => q = w.heap.size + 1) w3).setCell ⟨w.heap.size + 1, 0, none⟩ (.int .i64 id) (fun _ => rfl)).setCell ⟨w.heap.size + 1, 1, none⟩ (.int .i64 tm) (fun _ => rfl)).setCell ⟨w.heap.size + 1, 2, none⟩ (.int .i64 vo) (fun _ => rfl)).setCell ⟨w.heap.size + 1, 3, none⟩ (.slice la' lg.length lc') (fun _ => rfl)).setCell ⟨w.heap.size + 1, 4, none⟩ (.slice sa' st.length sc') (fun _ => rfl)).setCell ⟨w.heap.size + 1, 5, none⟩ (.int .i64 0) (fun _ => rfl)).setCell ⟨w.heap.size + 1, 6, none⟩ (.slice none 0 0) (fun _ => rfl)).setCell ⟨w.heap.size + 1, 7, none⟩ (.slice (some ⟨gn, 0, none⟩) 7 7) (fun _ => rfl)).setCell ⟨w.heap.size + 1, 8, none⟩ (.slice (some ⟨gm, 0, none⟩) 7 7) (fun _ => rfl)).setCell ⟨w.heap.size + 1, 9, none⟩ (.int .i64 cm) (fun _ => rfl)).setCell ⟨w.heap.size + 1, 10, none⟩ (.int .i64 el) (fun _ => rfl)).setCell ⟨w.heap.size + 1, 11, none⟩ (.int .i64 wt) (fun _ => rfl)).setCell ⟨w.heap.size + 1, 12, none⟩ (.bool up) (fun _ => rfl))
    have z0 := R9.cell 0 rfl
    have z1 := R9.cell 1 rfl
    have z2 := R9.cell 2 rfl
    have z3 := R9.cell 3 rfl
    have z4 := R9.cell 4 rfl
    have z5 := R9.cell 5 rfl
    have z6 := R9.cell 6 rfl
    have z7 := R9.cell 7 rfl
    have z8 := R9.cell 8 rfl
    have z9 := R9.cell 9 rfl
    have z10 := R9.cell 10 rfl
    have z11 := R9.cell 11 rfl
    have z12 := R9.cell 12 rfl
    have tR : ∀ v : Value, (∀ k, v.ownBlock = some k → w0.heap.size ≤ k ∧ k < w1.heap.size) → ∀ k, v.ownBlock = some k → ¬ (k = w.heap.size + 1) := fun v h1 k hk e => by
      have := h1 k hk
      omega
    have F9 := hide (And.intro (OwnE.kept nl2 T9 (tR _ il)) (And.intro (ns2.kept T9 (tR _ is_)) (And.intro (r1.kept T9 (fun k hk e => by simp [Value.ownBlock] at hk; omega)) (r2.kept T9 (fun k hk e => by simp [Value.ownBlock] at hk; omega)))))
    clear R9 T9 R3 hB3 r1 r2 hT nl nl2 ns2 K3 tT tR hs2 hgn hgm hap ha hlo hbl hz hbs il is_ HF HR2 HNL K2
    go_wp2_with fail
    refine bodyPost_ret (v := .agg #[.int .i64 id, .int .i64 tm, .int .i64 vo, .slice la' lg.length lc', .slice sa' st.length sc', .int .i64 0, .slice none 0 0, .slice (some ⟨gn, 0, none⟩) 7 7, .slice (some ⟨gm, 0, none⟩) 7 7, .int .i64 cm, .int .i64 el, .int .i64 wt, .bool up]) (by simp [results, Try.results80, go_sem, z0, z1, z2, z3, z4, z5, z6, z7, z8, z9, z10, z11, z12]) rfl ?_
    obtain ⟨il, is_, hap, ha, hlo, hbl, hz, hbs⟩ := unhide HI
    obtain ⟨hgn, hgm⟩ := unhide HG
    refine ⟨la', lc', sa', sc', gn, gm, rfl, ⟨(unhide F9).1, (unhide F9).2.1, ⟨rfl, .inl ⟨rfl, rfl⟩⟩, (unhide F9).2.2.1, (unhide F9).2.2.2, ?_⟩, unhide B9⟩
    simp only [List.pairwise_cons, List.mem_cons, List.not_mem_nil, or_false, forall_eq_or_imp, forall_eq, List.Pairwise.nil, and_true, false_implies, implies_true]
    have nn : ∀ v : Value, Apart v (.slice none 0 0) := fun v k _ h2 => by cases h2
    have nb : ∀ v : Value, Apart (.slice none 0 0) v := fun v k h1 _ => by cases h1
    have ng : ∀ (v : Value) (x : Nat), w1.heap.size ≤ x → (∀ k, v.ownBlock = some k → w0.heap.size ≤ k ∧ k < w1.heap.size) → Apart v (.slice (some ⟨x, 0, none⟩) 7 7) := fun v x hx h1 k hk h2 => by
      have := h1 k hk
      simp [Value.ownBlock] at h2
      omega
    refine ⟨⟨hap, nn _, ng _ _ (by omega) il, ng _ _ (by omega) il⟩, ⟨nn _, ng _ _ (by omega) is_, ng _ _ (by omega) is_⟩, ⟨nb _, nb _⟩, ?_⟩
    intro k h1 h2
    simp [Value.ownBlock] at h1 h2
    omega
  · obtain ⟨gn, hgn⟩ : ∃ gn, gn = w1.heap.size + 1 := ⟨_, rfl⟩
    obtain ⟨gm, hgm⟩ : ∃ gm, gm = w1.heap.size := ⟨_, rfl⟩
    have hX : ((w1.setCell ⟨b, 7, none⟩ (.slice (some ⟨w1.heap.size + 1, 0, none⟩) 7 7)).setCell ⟨b, 8, none⟩ (.slice (some ⟨w1.heap.size, 0, none⟩) 7 7)).heap.size = w1.heap.size := by simp
    have T := (((((Touch.refl (fun q => q = b) w1).setCell ⟨b, 7, none⟩ (.slice (some ⟨w1.heap.size + 1, 0, none⟩) 7 7) (fun _ => rfl)).setCell ⟨b, 8, none⟩ (.slice (some ⟨w1.heap.size, 0, none⟩) 7 7) (fun _ => rfl)).alloc (.cells #[.int .i64 0, .int .i64 0, .int .i64 0, .int .i64 0, .int .i64 0, .int .i64 0, .int .i64 0] 3)).alloc (.cells #[.int .i64 0, .int .i64 0, .int .i64 0, .int .i64 0, .int .i64 0, .int .i64 0, .int .i64 0] 3)).drew
    have hA := unhide HA
    have O1 := ((own_seven ((w1.setCell ⟨b, 7, none⟩ (.slice (some ⟨w1.heap.size + 1, 0, none⟩) 7 7)).setCell ⟨b, 8, none⟩ (.slice (some ⟨w1.heap.size, 0, none⟩) 7 7)) w.heap.size w1.heap.size hX (by omega)).kept (((Touch.refl (fun _ => False) _).alloc (.cells #[.int .i64 0, .int .i64 0, .int .i64 0, .int .i64 0, .int .i64 0, .int .i64 0, .int .i64 0] 3)).drew) (fun _ _ e => e))
    have O2 := ((own_seven (((w1.setCell ⟨b, 7, none⟩ (.slice (some ⟨w1.heap.size + 1, 0, none⟩) 7 7)).setCell ⟨b, 8, none⟩ (.slice (some ⟨w1.heap.size, 0, none⟩) 7 7)).alloc (.cells #[.int .i64 0, .int .i64 0, .int .i64 0, .int .i64 0, .int .i64 0, .int .i64 0, .int .i64 0] 3)) w.heap.size (w1.heap.size + 1) (by simp) (by omega)).kept ((Touch.refl (fun _ => False) _).drew) (fun _ _ e => e))
    have X2 := (((((hA.bk.set 7 (.slice (some ⟨w1.heap.size + 1, 0, none⟩) 7 7) (by simp)).set 8 (.slice (some ⟨w1.heap.size, 0, none⟩) 7 7) (by simp)).alloc (.cells #[.int .i64 0, .int .i64 0, .int .i64 0, .int .i64 0, .int .i64 0, .int .i64 0, .int .i64 0] 3)).alloc (.cells #[.int .i64 0, .int .i64 0, .int .i64 0, .int .i64 0, .int .i64 0, .int .i64 0, .int .i64 0] 3)).drewN 1)
    simp only [List.set_cons_succ, List.set_cons_zero] at X2
    have R2 := (unhide HR1).kept T (fun e => by omega)
    have K2 := hide ((((((unhide K1).setCell (p := ⟨b, 7, none⟩) (by simp; omega) (.slice (some ⟨w1.heap.size + 1, 0, none⟩) 7 7)).setCell (p := ⟨b, 8, none⟩) (by simp; omega) (.slice (some ⟨w1.heap.size, 0, none⟩) 7 7)).alloc (by rw [hX]; omega) (.cells #[.int .i64 0, .int .i64 0, .int .i64 0, .int .i64 0, .int .i64 0, .int .i64 0, .int .i64 0] 3)).alloc (by simp; omega) (.cells #[.int .i64 0, .int .i64 0, .int .i64 0, .int .i64 0, .int .i64 0, .int .i64 0, .int .i64 0] 3)).drew)
    have nl := World.ownsRow_monoE (hA.no.lg.kept T (fun k hk e => hA.ap (.slice la' lg.length lc') (by simp) (by rw [hk, e]))) (show w.heap.size ≤ w0.heap.size by omega)
    have ns := (hA.no.st.kept T (fun k hk e => hA.ap (.slice sa' st.length sc') (by simp) (by rw [hk, e]))).mono (show w.heap.size ≤ w0.heap.size by omega)
    have il := World.ownsRow.lt hA.no.lg
    have is_ := hA.no.st.lt
    have hap := (List.pairwise_cons.1 hA.no.ap).1 _ (List.mem_cons_self ..)
    have HI := hide (And.intro il (And.intro is_ (And.intro hap (And.intro hA.ap (And.intro hlo (And.intro hbl (And.intro hz hbs)))))))
    have HNL := hide (And.intro nl ns)
    have HS2 := hide (show (((((w1.setCell ⟨b, 7, none⟩ (.slice (some ⟨w1.heap.size + 1, 0, none⟩) 7 7)).setCell ⟨b, 8, none⟩ (.slice (some ⟨w1.heap.size, 0, none⟩) 7 7)).alloc (.cells #[.int .i64 0, .int .i64 0, .int .i64 0, .int .i64 0, .int .i64 0, .int .i64 0, .int .i64 0] 3)).alloc (.cells #[.int .i64 0, .int .i64 0, .int .i64 0, .int .i64 0, .int .i64 0, .int .i64 0, .int .i64 0] 3)).drew).heap.size = w1.heap.size + 2 by simp)
    have HF := hide (follow_any w.heap.size b (w1.heap.size + 1) 7 (w1.heap.size) 7 id tm vo ro cm el wt up (.slice la' lg.length lc') (.slice sa' st.length sc') _ _ _ (((((w1.setCell ⟨b, 7, none⟩ (.slice (some ⟨w1.heap.size + 1, 0, none⟩) 7 7)).setCell ⟨b, 8, none⟩ (.slice (some ⟨w1.heap.size, 0, none⟩) 7 7)).alloc (.cells #[.int .i64 0, .int .i64 0, .int .i64 0, .int .i64 0, .int .i64 0, .int .i64 0, .int .i64 0] 3)).alloc (.cells #[.int .i64 0, .int .i64 0, .int .i64 0, .int .i64 0, .int .i64 0, .int .i64 0, .int .i64 0] 3)).drew) X2 (by simp) (by simp) O2 O1 (by omega) (by omega) (by omega))
    have HR2 := hide R2
    clear m7 m8 n7 n8 p8 q8 p9 q9 s7 t7 hmk X2 R2 O1 O2 T nl ns il is_ hap hA HA K1 HR1 hX hz hbs hbl hlo
    go_wp2_with fail
    generalize (((((w1.setCell ⟨b, 7, none⟩ (.slice (some ⟨w1.heap.size + 1, 0, none⟩) 7 7)).setCell ⟨b, 8, none⟩ (.slice (some ⟨w1.heap.size, 0, none⟩) 7 7)).alloc (.cells #[.int .i64 0, .int .i64 0, .int .i64 0, .int .i64 0, .int .i64 0, .int .i64 0, .int .i64 0] 3)).alloc (.cells #[.int .i64 0, .int .i64 0, .int .i64 0, .int .i64 0, .int .i64 0, .int .i64 0, .int .i64 0] 3)).drew) = w2 at *
    rw [← hgn, ← hgm] at HF
    have HG := hide (And.intro hgn hgm)
    clear hgn hgm
    refine (unhide HF).mono ?_
    rintro e w3 ⟨⟨v3, rfl⟩, hB3, r1, r2, hT⟩
    obtain ⟨il, is_, hap, ha, hlo, hbl, hz, hbs⟩ := unhide HI
    obtain ⟨hgn, hgm⟩ := unhide HG
    have hs2 := unhide HS2
    have R3 := (unhide HR2).kept hT (fun e => by omega)
    have tT : ∀ v : Value, (∀ k, v.ownBlock = some k → w0.heap.size ≤ k ∧ k < w1.heap.size) → v.ownBlock ≠ some b → ∀ k, v.ownBlock = some k → ¬ (k = b ∨ k = gn ∨ k = gm) := fun v h1 h2 k hk e => by
      have := h1 k hk
      rcases e with e | e | e
      · exact h2 (by rw [hk, e])
      · omega
      · omega
    have nl := (unhide HNL).1
    have nl2 := OwnE.kept nl hT (tT (.slice la' lg.length lc') il (ha (.slice la' lg.length lc') (by simp)))
    have ns2 := (unhide HNL).2.kept hT (tT (.slice sa' st.length sc') is_ (ha (.slice sa' st.length sc') (by simp)))
    have K3 := (unhide K2).trans (hT.below (by omega) (fun k hk e => by omega))
    have o0 := hB3.cell 0 rfl
    have o1 := hB3.cell 1 rfl
    have o2 := hB3.cell 2 rfl
    have o3 := hB3.cell 3 rfl
    have o4 := hB3.cell 4 rfl
    have o5 := hB3.cell 5 rfl
    have o6 := hB3.cell 6 rfl
    have o7 := hB3.cell 7 rfl
    have o8 := hB3.cell 8 rfl
    have o9 := hB3.cell 9 rfl
    have o10 := hB3.cell 10 rfl
    have o11 := hB3.cell 11 rfl
    have o12 := hB3.cell 12 rfl
    have r0_ := R3.cell 0 rfl
    have fr0 := R3.fro 0
    have r1_ := R3.cell 1 rfl
    have fr1 := R3.fro 1
    have r2_ := R3.cell 2 rfl
    have fr2 := R3.fro 2
    have r3_ := R3.cell 3 rfl
    have fr3 := R3.fro 3
    have r4_ := R3.cell 4 rfl
    have fr4 := R3.fro 4
    have r5_ := R3.cell 5 rfl
    have fr5 := R3.fro 5
    have r6_ := R3.cell 6 rfl
    have fr6 := R3.fro 6
    have r7_ := R3.cell 7 rfl
    have fr7 := R3.fro 7
    have r8_ := R3.cell 8 rfl
    have fr8 := R3.fro 8
    have r9_ := R3.cell 9 rfl
    have fr9 := R3.fro 9
    have r10_ := R3.cell 10 rfl
    have fr10 := R3.fro 10
    have r11_ := R3.cell 11 rfl
    have fr11 := R3.fro 11
    have r12_ := R3.cell 12 rfl
    have fr12 := R3.fro 12
    have R9 := (((((((((((((R3.set 0 (.int .i64 id) (by simp)).set 1 (.int .i64 tm) (by simp)).set 2 (.int .i64 vo) (by simp)).set 3 (.slice la' lg.length lc') (by simp)).set 4 (.slice sa' st.length sc') (by simp)).set 5 (.int .i64 0) (by simp)).set 6 (.slice none 0 0) (by simp)).set 7 (.slice (some ⟨gn, 0, none⟩) 7 7) (by simp)).set 8 (.slice (some ⟨gm, 0, none⟩) 7 7) (by simp)).set 9 (.int .i64 cm) (by simp)).set 10 (.int .i64 el) (by simp)).set 11 (.int .i64 wt) (by simp)).set 12 (.bool up) (by simp))
    have B9 := hide (((((((((((((K3.setCell (p := ⟨w.heap.size + 1, 0, none⟩) (by simp) (.int .i64 id)).setCell (p := ⟨w.heap.size + 1, 1, none⟩) (by simp) (.int .i64 tm)).setCell (p := ⟨w.heap.size + 1, 2, none⟩) (by simp) (.int .i64 vo)).setCell (p := ⟨w.heap.size + 1, 3, none⟩) (by simp) (.slice la' lg.length lc')).setCell (p := ⟨w.heap.size + 1, 4, none⟩) (by simp) (.slice sa' st.length sc')).setCell (p := ⟨w.heap.size + 1, 5, none⟩) (by simp) (.int .i64 0)).setCell (p := ⟨w.heap.size + 1, 6, none⟩) (by simp) (.slice none 0 0)).setCell (p := ⟨w.heap.size + 1, 7, none⟩) (by simp) (.slice (some ⟨gn, 0, none⟩) 7 7)).setCell (p := ⟨w.heap.size + 1, 8, none⟩) (by simp) (.slice (some ⟨gm, 0, none⟩) 7 7)).setCell (p := ⟨w.heap.size + 1, 9, none⟩) (by simp) (.int .i64 cm)).setCell (p := ⟨w.heap.size + 1, 10, none⟩) (by simp) (.int .i64 el)).setCell (p := ⟨w.heap.size + 1, 11, none⟩) (by simp) (.int .i64 wt)).setCell (p := ⟨w.heap.size + 1, 12, none⟩) (by simp) (.bool up))
    have T9 := ((((((((((((((Touch.refl (fun q => q = w.heap.size + 1) w3).setCell ⟨w.heap.size + 1, 0, none⟩ (.int .i64 id) (fun _ => rfl)).setCell ⟨w.heap.size + 1, 1, none⟩ (.int .i64 tm) (fun _ => rfl)).setCell ⟨w.heap.size + 1, 2, none⟩ (.int .i64 vo) (fun _ => rfl)).setCell ⟨w.heap.size + 1, 3, none⟩ (.slice la' lg.length lc') (fun _ => rfl)).setCell ⟨w.heap.size + 1, 4, none⟩ (.slice sa' st.length sc') (fun _ => rfl)).setCell ⟨w.heap.size + 1, 5, none⟩ (.int .i64 0) (fun _ => rfl)).setCell ⟨w.heap.size + 1, 6, none⟩ (.slice none 0 0) (fun _ => rfl)).setCell ⟨w.heap.size + 1, 7, none⟩ (.slice (some ⟨gn, 0, none⟩) 7 7) (fun _ => rfl)).setCell ⟨w.heap.size + 1, 8, none⟩ (.slice (some ⟨gm, 0, none⟩) 7 7) (fun _ => rfl)).setCell ⟨w.heap.size + 1, 9, none⟩ (.int .i64 cm) (fun _ => rfl)).setCell ⟨w.heap.size + 1, 10, none⟩ (.int .i64 el) (fun _ => rfl)).setCell ⟨w.heap.size + 1, 11, none⟩ (.int .i64 wt) (fun _ => rfl)).setCell ⟨w.heap.size + 1, 12, none⟩ (.bool up) (fun _ => rfl))
    have z0 := R9.cell 0 rfl
    have z1 := R9.cell 1 rfl
    have z2 := R9.cell 2 rfl
    have z3 := R9.cell 3 rfl
    have z4 := R9.cell 4 rfl
    have z5 := R9.cell 5 rfl
    have z6 := R9.cell 6 rfl
    have z7 := R9.cell 7 rfl
    have z8 := R9.cell 8 rfl
    have z9 := R9.cell 9 rfl
    have z10 := R9.cell 10 rfl
    have z11 := R9.cell 11 rfl
    have z12 := R9.cell 12 rfl
    have tR : ∀ v : Value, (∀ k, v.ownBlock = some k → w0.heap.size ≤ k ∧ k < w1.heap.size) → ∀ k, v.ownBlock = some k → ¬ (k = w.heap.size + 1) := fun v h1 k hk e => by
      have := h1 k hk
      omega
    have F9 := hide (And.intro (OwnE.kept nl2 T9 (tR _ il)) (And.intro (ns2.kept T9 (tR _ is_)) (And.intro (r1.kept T9 (fun k hk e => by simp [Value.ownBlock] at hk; omega)) (r2.kept T9 (fun k hk e => by simp [Value.ownBlock] at hk; omega)))))
    clear R9 T9 R3 hB3 r1 r2 hT nl nl2 ns2 K3 tT tR hs2 hgn hgm hap ha hlo hbl hz hbs il is_ HF HR2 HNL K2
    go_wp2_with fail
    refine bodyPost_ret (v := .agg #[.int .i64 id, .int .i64 tm, .int .i64 vo, .slice la' lg.length lc', .slice sa' st.length sc', .int .i64 0, .slice none 0 0, .slice (some ⟨gn, 0, none⟩) 7 7, .slice (some ⟨gm, 0, none⟩) 7 7, .int .i64 cm, .int .i64 el, .int .i64 wt, .bool up]) (by simp [results, Try.results80, go_sem, z0, z1, z2, z3, z4, z5, z6, z7, z8, z9, z10, z11, z12]) rfl ?_
    obtain ⟨il, is_, hap, ha, hlo, hbl, hz, hbs⟩ := unhide HI
    obtain ⟨hgn, hgm⟩ := unhide HG
    refine ⟨la', lc', sa', sc', gn, gm, rfl, ⟨(unhide F9).1, (unhide F9).2.1, ⟨rfl, .inl ⟨rfl, rfl⟩⟩, (unhide F9).2.2.1, (unhide F9).2.2.2, ?_⟩, unhide B9⟩
    simp only [List.pairwise_cons, List.mem_cons, List.not_mem_nil, or_false, forall_eq_or_imp, forall_eq, List.Pairwise.nil, and_true, false_implies, implies_true]
    have nn : ∀ v : Value, Apart v (.slice none 0 0) := fun v k _ h2 => by cases h2
    have nb : ∀ v : Value, Apart (.slice none 0 0) v := fun v k h1 _ => by cases h1
    have ng : ∀ (v : Value) (x : Nat), w1.heap.size ≤ x → (∀ k, v.ownBlock = some k → w0.heap.size ≤ k ∧ k < w1.heap.size) → Apart v (.slice (some ⟨x, 0, none⟩) 7 7) := fun v x hx h1 k hk h2 => by
      have := h1 k hk
      simp [Value.ownBlock] at h2
      omega
    refine ⟨⟨hap, nn _, ng _ _ (by omega) il, ng _ _ (by omega) il⟩, ⟨nn _, ng _ _ (by omega) is_, ng _ _ (by omega) is_⟩, ⟨nb _, nb _⟩, ?_⟩
    intro k h1 h2
    simp [Value.ownBlock] at h1 h2
    omega
end Go.Proofs.Ytafbdjcoimopfaa
