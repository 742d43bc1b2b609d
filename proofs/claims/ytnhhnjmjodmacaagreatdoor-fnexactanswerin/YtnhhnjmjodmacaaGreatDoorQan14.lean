/- (*mapNode).with. (*mapNode).put; a map's size, its pointer nil or not; hashes that part at no bit are one. -/
import Derived.Test.YtnhhnjmjodmacaaGreatDoorQan10
import Derived.Test.YtnhhnjmjodmacaaGreatDoorQan12
import Derived.Test.YtnhhnjmjodmacaaGreatDoorQan13
import Derived.Deep.DeepCutAuto
namespace Go.Proofs.YtnhhnjmjodmacaaGreatDoor.Sha
open Go.ChangeShapes Go.WideShapes Go.ChangeAt Go.RowKit
set_option linter.unusedVariables false
set_option linter.unusedSimpArgs false
theorem with_end0 {w w1 w2 : World} {S Sl Sr : Nat → Prop} {p q a pr p' : Nat} {hv : ByteArray} {l' r : Tr} (hw : Below w.heap.size w w1) (hsz : w1.heap.size = w.heap.size) (hp : S p) (h1 : ∀ b, Sl b → S b ∧ b ≠ p) (h2 : ∀ b, Sr b → S b ∧ b ≠ p) (h3 : ∀ b, Sl b → ¬ Sr b) (hS : ∀ b, S b → b < w.heap.size) (hqS : ¬ S q)
    {pl : Nat} (X : Blk w1 p (fkC hv a pl pr)) (hr : Nd w1 Sr pr r) (hn : Nd w2 (fun b => Sl b ∨ b = q ∨ (w1.heap.size ≤ b ∧ b < w2.heap.size)) p' l') (hT : Touch Sl w1 w2) :
    WithR S q (.fork a hv l' r) w (.returned (.pointer (some ⟨p, 0, none⟩))) (w2.setCell ⟨p, 4, none⟩ (.pointer (some ⟨p', 0, none⟩))) := by
  have X2 := X.kept hT (fun e => (h1 p e).2 rfl)
  have XS := X2.set 4 (.pointer (some ⟨p', 0, none⟩)) (by simp [fkC])
  have tp := (Touch.refl (fun b => b = p) w2).setCell ⟨p, 4, none⟩ (.pointer (some ⟨p', 0, none⟩)) (fun _ => rfl)
  have hts := tp.size
  have hps := hS p hp
  have NK := hn.touch tp (fun b hb e => by
    rcases hb with hb | hb | hb
    · exact (h1 b hb).2 e
    · exact hqS (by rw [← hb, e]; exact hp)
    · omega)
  have NO := (hr.touch hT (fun b hb e => h3 b e hb)).touch tp (fun b hb e => (h2 b hb).2 e)
  refine ⟨p, rfl, .fork _ (fun b => Sl b ∨ b = q ∨ (w1.heap.size ≤ b ∧ b < w2.heap.size)) Sr p a hv l' r p' pr (.inl hp) (fun b hb => ?_) (fun b hb => ⟨.inl (h2 b hb).1, (h2 b hb).2⟩) (fun b hb hr' => ?_) XS NK NO, ?_⟩
  · rcases hb with hb | hb | hb
    · exact ⟨.inl (h1 b hb).1, (h1 b hb).2⟩
    · exact ⟨.inr (.inl hb), fun e => hqS (by rw [← hb, e]; exact hp)⟩
    · exact ⟨.inr (.inr ⟨by omega, by omega⟩), by omega⟩
  · rcases hb with hb | hb | hb
    · exact h3 b hb hr'
    · exact hqS (by rw [← hb]; exact (h2 b hr').1)
    · have := hS b (h2 b hr').1
      omega
  · exact ((Touch.ofBelow (T := S) hw).trans hT (fun b _ e => (h1 b e).1)).trans tp (fun b _ e => by rw [e]; exact hp)
theorem with_end1 {w w1 w2 : World} {S Sl Sr : Nat → Prop} {p q a pl p' : Nat} {hv : ByteArray} {l r' : Tr} (hw : Below w.heap.size w w1) (hsz : w1.heap.size = w.heap.size) (hp : S p) (h1 : ∀ b, Sl b → S b ∧ b ≠ p) (h2 : ∀ b, Sr b → S b ∧ b ≠ p) (h3 : ∀ b, Sl b → ¬ Sr b) (hS : ∀ b, S b → b < w.heap.size) (hqS : ¬ S q)
    {pr : Nat} (X : Blk w1 p (fkC hv a pl pr)) (hl : Nd w1 Sl pl l) (hn : Nd w2 (fun b => Sr b ∨ b = q ∨ (w1.heap.size ≤ b ∧ b < w2.heap.size)) p' r') (hT : Touch Sr w1 w2) :
    WithR S q (.fork a hv l r') w (.returned (.pointer (some ⟨p, 0, none⟩))) (w2.setCell ⟨p, 5, none⟩ (.pointer (some ⟨p', 0, none⟩))) := by
  have X2 := X.kept hT (fun e => (h2 p e).2 rfl)
  have XS := X2.set 5 (.pointer (some ⟨p', 0, none⟩)) (by simp [fkC])
  have tp := (Touch.refl (fun b => b = p) w2).setCell ⟨p, 5, none⟩ (.pointer (some ⟨p', 0, none⟩)) (fun _ => rfl)
  have hts := tp.size
  have hps := hS p hp
  have NK := hn.touch tp (fun b hb e => by
    rcases hb with hb | hb | hb
    · exact (h2 b hb).2 e
    · exact hqS (by rw [← hb, e]; exact hp)
    · omega)
  have NO := (hl.touch hT (fun b hb e => h3 b hb e)).touch tp (fun b hb e => (h1 b hb).2 e)
  refine ⟨p, rfl, .fork _ Sl (fun b => Sr b ∨ b = q ∨ (w1.heap.size ≤ b ∧ b < w2.heap.size)) p a hv l r' pl p' (.inl hp) (fun b hb => ⟨.inl (h1 b hb).1, (h1 b hb).2⟩) (fun b hb => ?_) (fun b hl' hb => ?_) XS NO NK, ?_⟩
  · rcases hb with hb | hb | hb
    · exact ⟨.inl (h2 b hb).1, (h2 b hb).2⟩
    · exact ⟨.inr (.inl hb), fun e => hqS (by rw [← hb, e]; exact hp)⟩
    · exact ⟨.inr (.inr ⟨by omega, by omega⟩), by omega⟩
  · rcases hb with hb | hb | hb
    · exact h3 b hl' hb
    · exact hqS (by rw [← hb]; exact (h1 b hl').1)
    · have := hS b (h1 b hl').1
      omega
  · exact ((Touch.ofBelow (T := S) hw).trans hT (fun b _ e => (h2 b e).1)).trans tp (fun b _ e => by rw [e]; exact hp)
set_option maxRecDepth 100000 in
set_option maxHeartbeats 4000000 in
theorem with_any (k v : ByteArray) (at_ : Nat) (hat : at_ ≤ 256) (hk : k.size ≤ 65536) : ∀ (t : Tr) (m : Nat) (w : World) (S : Nat → Prop) (p q : Nat), Nd w S p t → Rise m t → Sep t → TrOK t → (∀ b, S b → b < w.heap.size) → Blk w q (lfC k v) → ¬ S q → at_ = fd (kh (leadL (kh k) t).1) (kh k) →
    Calls Tryz.prog 147 #[.pointer (some ⟨p, 0, none⟩), .pointer (some ⟨q, 0, none⟩), .int .i64 at_] w fun e w' => WithR S q (putT (kh k) at_ k v t) w e w' := by
  intro t
  induction t with
  | leaf k' v' =>
    intro m w S p q hn hr hs ho hS hq hqS hfd
    have HNF := hide (fun (ha : at_ < 256) => newFork_nd (a := at_) hn (hash_of_ok ho) hS hq hqS hk ha (by
      have h1 := ((fd_iff (kh (leadL (kh k) (.leaf k' v')).1) (kh k) at_ ha).1 hfd.symm).2
      exact fun e => h1 e.symm))
    cases hn with
    | leaf S p k' v' h0 h1 =>
      have x3 := h1.cell 3 rfl
      by_cases h256 : at_ = 256
      · have HG : Hid (WithR S q (putT (kh k) at_ k v (.leaf k' v')) w (.returned (.pointer (some ⟨q, 0, none⟩))) w) := hide (by
          unfold putT
          rw [if_pos h256]
          exact ⟨q, rfl, .leaf _ q k v (.inr (.inl rfl)) hq, Touch.refl _ _⟩)
        subst h256
        clear h1 hr hs ho hq hfd HNF
        go_enter Tryz.func147, Tryz.ntmps147
        go_wp2_with fail
        go_ret
        exact unhide HG
      · have HF := hide (unhide HNF (by omega))
        have HP : Hid (putT (kh k) at_ k v (.leaf k' v') = forkT at_ (kh k) k v (.leaf k' v')) := hide (by conv => lhs; unfold putT; rw [if_neg h256])
        have hb1 : ¬ (256 : Int) < (at_ : Int) := by omega
        have hb2 : ((at_ : Int) == 256) = false := by rw [beq_eq_false_iff_ne]; omega
        clear h1 hr hs ho hq hfd HNF
        generalize forkT at_ (kh k) k v (.leaf k' v') = R at *
        go_enter Tryz.func147, Tryz.ntmps147
        go_wp2_with fail
        refine (unhide HF).mono ?_
        rintro e w2 ⟨p2, rfl, h2⟩
        have HG : Hid (WithR S q (putT (kh k) at_ k v (.leaf k' v')) w (.returned (.pointer (some ⟨p2, 0, none⟩))) w2) := hide (by rw [unhide HP]; exact ⟨p2, rfl, h2⟩)
        clear h2
        go_wp2_with fail
        go_ret
        exact unhide HG
  | fork a hv l r ihl ihr =>
    intro m w S p q hn hr hs ho hS hq hqS hfd
    have hbit := lead_bit (kh k) hr hs
    have HNF := hide (fun (ha : at_ < a) => newFork_nd (a := at_) hn (hash_of_ok ho) hS hq hqS hk (by have := hr.2.1; omega) (by
      have h1 := ((fd_iff (kh (leadL (kh k) (.fork a hv l r)).1) (kh k) at_ (by have := hr.2.1; omega)).1 hfd.symm).2
      have h2 := lead_alike (kh k) (.fork a hv l r) m hr hs at_ ha
      exact fun e => h1 (h2.trans e.symm)))
    have hne : at_ ≠ a := fun e => by
      have h1 := ((fd_iff (kh (leadL (kh k) (.fork a hv l r)).1) (kh k) at_ (by have := hr.2.1; omega)).1 hfd.symm).2
      rw [e] at h1
      exact h1 hbit
    cases hn with
    | fork S Sl Sr p a hv l r pl pr h0 h1 h2 h3 h4 h5 h6 =>
      have x3 := h4.cell 3 rfl
      obtain ⟨r0, r1, r2, r3⟩ := hr
      by_cases hlt : a < at_
      · have X := hide h4
        have x4 := h4.cell 4 rfl
        have x5 := h4.cell 5 rfl
        have q2 := hq.cell 2 rfl
        have hlt' : (a : Int) < (at_ : Int) := by omega
        have HB := hide (fun wx => hashBit_any (kh k) a wx (kh_size hk) r1)
        have HS := hide (And.intro h0 (And.intro h1 (And.intro h2 (And.intro h3 (And.intro hS hqS)))))
        have HQ := hide hq
        have HN5 := hide h5
        have HN6 := hide h6
        obtain ⟨s0, s1, s2, s3, s4⟩ := hs
        obtain ⟨o0, o1, o2, o3⟩ := ho
        rcases bitN_01 (kh k) a with hb | hb
        · have HP : Hid (putT (kh k) at_ k v (.fork a hv l r) = .fork a hv (putT (kh k) at_ k v l) r) := hide (by conv => lhs; unfold putT; rw [if_pos hlt, if_pos hb])
          have hfl : at_ = fd (kh (leadL (kh k) l).1) (kh k) := by rw [hfd]; conv => lhs; unfold leadL; rw [if_pos hb]
          have HC : Hid (∀ wx, Below w.heap.size w wx → wx.heap.size = w.heap.size → Calls Tryz.prog 147 #[.pointer (some ⟨pl, 0, none⟩), .pointer (some ⟨q, 0, none⟩), .int .i64 at_] wx fun e w' => WithR Sl q (putT (kh k) at_ k v l) wx e w') := hide (fun wx hbx hsx => ihl _ wx Sl pl q ((unhide HN5).blw hbx) r2 s3 o2 (fun b hb => by rw [hsx]; exact hS b (h1 b hb).1) ((unhide HQ).below hbx) (fun e => hqS (h1 q e).1) hfl)
          rw [hb] at HB
          clear h1 h2 h3 h4 h5 h6 h0 hS hqS hq hbit HNF hne hfd hfl ihl ihr s0 s1 s2 s3 s4 o0 o1 o2 o3 r0 r2 r3
          generalize putT (kh k) at_ k v l = D at *
          generalize putT (kh k) at_ k v (.fork a hv l r) = R at *
          generalize kh k = hh at *
          go_enter Tryz.func147, Tryz.ntmps147
          go_wp2_with fail
          go_quiet ((go_at_call 114; exact Calls.quiet_of_same (unhide HB _)))
          have BD := hide (below_drewN (Below.refl w.heap.size w) nq)
          have X1 := (unhide X).below (unhide BD)
          have y4 := X1.cell 4 rfl
          have g4 := X1.fro 4
          have HX1 := hide X1
          have HE : Hid ((w.drewN nq).heap.size = w.heap.size) := rfl
          clear x3 x4 x5 q2 X1
          generalize w.drewN nq = w1 at *
          go_wp2_with fail
          go_region_law ((go_simp; go_at_call 147; refine (unhide HC _ (below_drewN (unhide BD) 1) (unhide HE)).mono ?_; rintro e w2 ⟨p2, rfl, hn2, hT2⟩; (have X2 := ((unhide HX1).drewN 1).kept hT2 (fun e => ((unhide HS).2.1 p e).2 rfl)); (have z4 := X2.cell 4 rfl); (have h4 := X2.fro 4); go_simp))
          all_goals
            have HG := hide (with_end0 (q := q) (below_drewN (unhide BD) 1) (unhide HE) (unhide HS).1 (unhide HS).2.1 (unhide HS).2.2.1 (unhide HS).2.2.2.1 (unhide HS).2.2.2.2.1 (unhide HS).2.2.2.2.2 ((unhide HX1).drewN 1) ((unhide HN6).blw (below_drewN (unhide BD) 1)) hn2 hT2)
            rw [← unhide HP] at HG
            clear hn2 hT2 X2 z4 h4
            go_wp2_with fail
            go_ret
            exact unhide HG
        · have HP : Hid (putT (kh k) at_ k v (.fork a hv l r) = .fork a hv l (putT (kh k) at_ k v r)) := hide (by conv => lhs; unfold putT; rw [if_pos hlt, if_neg (by omega)])
          have hfl : at_ = fd (kh (leadL (kh k) r).1) (kh k) := by rw [hfd]; conv => lhs; unfold leadL; rw [if_neg (by omega)]
          have HC : Hid (∀ wx, Below w.heap.size w wx → wx.heap.size = w.heap.size → Calls Tryz.prog 147 #[.pointer (some ⟨pr, 0, none⟩), .pointer (some ⟨q, 0, none⟩), .int .i64 at_] wx fun e w' => WithR Sr q (putT (kh k) at_ k v r) wx e w') := hide (fun wx hbx hsx => ihr _ wx Sr pr q ((unhide HN6).blw hbx) r3 s4 o3 (fun b hb => by rw [hsx]; exact hS b (h2 b hb).1) ((unhide HQ).below hbx) (fun e => hqS (h2 q e).1) hfl)
          rw [hb] at HB
          clear h1 h2 h3 h4 h5 h6 h0 hS hqS hq hbit HNF hne hfd hfl ihl ihr s0 s1 s2 s3 s4 o0 o1 o2 o3 r0 r2 r3
          generalize putT (kh k) at_ k v r = D at *
          generalize putT (kh k) at_ k v (.fork a hv l r) = R at *
          generalize kh k = hh at *
          go_enter Tryz.func147, Tryz.ntmps147
          go_wp2_with fail
          go_quiet ((go_at_call 114; exact Calls.quiet_of_same (unhide HB _)))
          have BD := hide (below_drewN (Below.refl w.heap.size w) nq)
          have X1 := (unhide X).below (unhide BD)
          have y5 := X1.cell 5 rfl
          have g5 := X1.fro 5
          have HX1 := hide X1
          have HE : Hid ((w.drewN nq).heap.size = w.heap.size) := rfl
          clear x3 x4 x5 q2 X1
          generalize w.drewN nq = w1 at *
          go_wp2_with fail
          go_region_law ((go_simp; go_at_call 147; refine (unhide HC _ (below_drewN (unhide BD) 1) (unhide HE)).mono ?_; rintro e w2 ⟨p2, rfl, hn2, hT2⟩; (have X2 := ((unhide HX1).drewN 1).kept hT2 (fun e => ((unhide HS).2.2.1 p e).2 rfl)); (have z4 := X2.cell 5 rfl); (have h4 := X2.fro 5); go_simp))
          all_goals
            have HG := hide (with_end1 (q := q) (below_drewN (unhide BD) 1) (unhide HE) (unhide HS).1 (unhide HS).2.1 (unhide HS).2.2.1 (unhide HS).2.2.2.1 (unhide HS).2.2.2.2.1 (unhide HS).2.2.2.2.2 ((unhide HX1).drewN 1) ((unhide HN5).blw (below_drewN (unhide BD) 1)) hn2 hT2)
            rw [← unhide HP] at HG
            clear hn2 hT2 X2 z4 h4
            go_wp2_with fail
            go_ret
            exact unhide HG
      · have HF := hide (unhide HNF (by omega))
        have HP : Hid (putT (kh k) at_ k v (.fork a hv l r) = forkT at_ (kh k) k v (.fork a hv l r)) := hide (by conv => lhs; unfold putT; rw [if_neg hlt])
        have hb1 : ¬ (a : Int) < (at_ : Int) := by omega
        have hb2 : ((at_ : Int) == 256) = false := by rw [beq_eq_false_iff_ne]; omega
        clear h1 h2 h3 h4 h5 h6 h0 hS hqS hq hbit HNF hne hfd ihl ihr hs ho r0 r2 r3
        generalize forkT at_ (kh k) k v (.fork a hv l r) = R at *
        go_enter Tryz.func147, Tryz.ntmps147
        go_wp2_with fail
        refine (unhide HF).mono ?_
        rintro e w2 ⟨p2, rfl, h2⟩
        have HG : Hid (WithR S q (putT (kh k) at_ k v (.fork a hv l r)) w (.returned (.pointer (some ⟨p2, 0, none⟩))) w2) := hide (by rw [unhide HP]; exact ⟨p2, rfl, h2⟩)
        clear h2
        go_wp2_with fail
        go_ret
        exact unhide HG
end Go.Proofs.YtnhhnjmjodmacaaGreatDoor.Sha
namespace Go.Proofs.YtnhhnjmjodmacaaGreatDoor.Sha
open Go.ChangeShapes Go.WideShapes Go.ChangeAt Go.RowKit
set_option linter.unusedVariables false
set_option linter.unusedSimpArgs false
theorem lvs_len : ∀ t : Tr, t.lvs.length = t.lvN
  | .leaf _ _ => rfl
  | .fork _ _ l r => by show (l.lvs ++ r.lvs).length = l.lvN + r.lvN; rw [List.length_append, lvs_len l, lvs_len r]
theorem fd_full {x y : ByteArray} (hx : x.size = 32) (hy : y.size = 32) (h : fd x y = 256) : x = y := by
  have hs : ∀ k, k ≤ 32 → ∀ j, j < k → byN x j = byN y j := by
    intro k
    induction k with
    | zero => intro _ j hj; omega
    | succ k ih =>
      intro hk j hj
      by_cases e : j = k
      · subst e
        by_cases hd : byN x j ^^^ byN y j = 0
        · exact Nat.eq_of_testBit_eq fun i => by
            have h1 := congrArg (fun n => n.testBit i) hd
            simp only [Nat.testBit_xor, Nat.zero_testBit] at h1
            generalize (byN x j).testBit i = b1 at *
            generalize (byN y j).testBit i = b2 at *
            cases b1 <;> cases b2 <;> simp_all
        · have h1 := fd_byte x y j (by omega) (ih (by omega)) hd
          have hlt : byN x j ^^^ byN y j < 256 := Nat.xor_lt_two_pow (n := 8) (byN_lt x j) (byN_lt y j)
          have h2 := (bl_bits ⟨byN x j ^^^ byN y j, hlt⟩ hd).1
          dsimp only at h2
          omega
      · exact ih (by omega) j (by omega)
  have hx2 : x.data.toList.length = 32 := by simpa using hx
  have hy2 : y.data.toList.length = 32 := by simpa using hy
  have : x.data.toList = y.data.toList := by
    apply List.ext_getElem?
    intro j
    by_cases hj : j < 32
    · have h1 := hs 32 (Nat.le_refl _) j hj
      unfold byN at h1
      have h2 := UInt8.toNat_inj.1 h1
      rw [List.getD_eq_getElem?_getD, List.getD_eq_getElem?_getD, List.getElem?_eq_getElem (by omega), List.getElem?_eq_getElem (by omega)] at h2
      rw [List.getElem?_eq_getElem (by omega), List.getElem?_eq_getElem (by omega)]
      simpa using h2
    · rw [List.getElem?_eq_none (by omega), List.getElem?_eq_none (by omega)]
  cases x; cases y
  simpa using congrArg List.toArray this
theorem fd_ne {x y : ByteArray} (hx : x.size = 32) (hy : y.size = 32) : fd x y < 256 ↔ x ≠ y := by
  have h := fd_le x y
  constructor
  · intro h1 e
    subst e
    have := fd_same x x (fun _ _ => rfl)
    omega
  · intro h1
    rcases Nat.lt_or_ge (fd x y) 256 with h2 | h2
    · exact h2
    · exact absurd (fd_full hx hy (by omega)) h1
def lvO : Option Tr → Nat
  | none => 0
  | some t => t.lvN
theorem sizeO_any {w : World} {S : Nat → Prop} {pv : Option Addr} {o : Option Tr} (hp : PtrM w S pv o) (hok : OkO o) (h40 : lvO o ≤ 1000) :
    Calls Tryz.prog 142 #[.pointer pv] w fun e w' => e = .returned (.int .i64 (lvO o)) ∧ Below w.heap.size w w' := by
  cases o with
  | none =>
    obtain rfl : pv = none := hp
    exact callsIn_wide.1 (size_in 3 (Nat.le_refl _) none w none rfl (by simp [LO.list]))
  | some t =>
    obtain ⟨p, rfl, hn⟩ := hp
    have := size_any hn hok (by rw [lvs_len]; exact h40)
    rw [lvs_len] at this
    exact this
/-- What a map is with a key's value put into it. -/
def putAt (t : Tr) (key : ByteArray) : Nat := fd (kh (leadL (kh key) t).1) (kh key)
def putO (o : Option Tr) (key val : ByteArray) : Tr := match o with
  | none => .leaf key val
  | some t => putT (kh key) (putAt t key) key val t
set_option maxRecDepth 100000 in
set_option maxHeartbeats 2000000 in
theorem put_any (key val : ByteArray) (hk : key.size ≤ 24) (w : World) (S : Nat → Prop) (pv : Option Addr) (q : Nat) (o : Option Tr) (hp : PtrM w S pv o) (hri : RiseO o) (hsp : SepO o) (hok : OkO o) (hS : ∀ b, S b → b < w.heap.size) (hq : Blk w q (lfC key val)) (hqS : ¬ S q) :
    Calls Tryz.prog 135 #[.pointer pv, .pointer (some ⟨q, 0, none⟩)] w fun e w' => WithR S q (putO o key val) w e w' := by
  cases o with
  | none =>
    obtain rfl : pv = none := hp
    have HR : Hid (WithR S q (putO none key val) w (.returned (.pointer (some ⟨q, 0, none⟩))) w) := hide ⟨q, rfl, Nd.leaf _ q key val (.inr (.inl rfl)) hq, Touch.refl _ _⟩
    clear hq hqS hS
    go_enter Tryz.func135, Tryz.ntmps135
    go_wp2_with fail
    go_ret
    exact unhide HR
  | some t =>
    obtain ⟨p, rfl, hn⟩ := hp
    have hkk := kh_size (k := key) (by omega)
    have hlo := lead_ok (kh key) t hok
    have hlk := kh_size (k := (leadL (kh key) t).1) (by have := (okK_iff.1 hlo.1).2; omega)
    have HLD := hide (fun wx (hbx : Below w.heap.size w wx) => lead_any (kh key) hkk wx _ p t (hn.blw hbx) hri)
    have HFD := hide (fun wx => firstDiff_any (kh (leadL (kh key) t).1) (kh key) wx hlk hkk)
    have HWI := hide (fun n => with_any key val (fd (kh (leadL (kh key) t).1) (kh key)) (fd_le _ _) (by omega) t 0 (w.drewN n) S p q (hn.blw (below_drewN (Below.refl _ _) n)) hri hsp.1 hok hS (hq.drewN n) hqS rfl)
    have HPO : Hid (putO (some t) key val = putT (kh key) (fd (kh (leadL (kh key) t).1) (kh key)) key val t) := rfl
    rw [unhide HPO]
    have q2 : w.cell? ⟨q, 2, none⟩ = some (.string (kh key)) := hq.cell 2 rfl
    generalize hlh : kh (leadL (kh key) t).1 = lh at *
    have HLH := hide hlh
    clear hlh
    generalize fd lh (kh key) = A at *
    generalize putT (kh key) A key val t = D at *
    generalize kh key = hh at *
    clear hlo hlk hkk hn hq hS hqS HPO
    go_enter Tryz.func135, Tryz.ntmps135
    go_wp2_with fail
    go_region_law (first
      | (go_simp; go_at_call 147; refine (unhide HWI _).mono ?_; rintro e w7 ⟨p7, rfl, hn7, hT7⟩; go_simp)
      | (go_simp; go_at_call 113; refine (unhide HFD _).mono ?_; rintro e w6 ⟨rfl, n6, rfl⟩; go_simp)
      | (go_simp; go_at_call 141; refine (unhide HLD _ (below_drewN (Below.refl _ _) 1)).mono ?_; rintro e w5 ⟨ql, rfl, hB5, n5, rfl⟩; (have cl : w.cell? ⟨ql, 2, none⟩ = some (.string lh) := (by have h := hB5.cell 2 rfl; rw [unhide HLH] at h; exact h)); go_simp))
    all_goals
      have HN7 := hide (And.intro hn7 hT7)
      clear hn7 hT7
      go_wp2_with fail
      go_ret
      refine ⟨_, rfl, ?_, (Touch.ofBelow (below_drewN (Below.refl _ _) _)).trans (unhide HN7).2 (fun _ _ h => h)⟩
      exact (unhide HN7).1
end Go.Proofs.YtnhhnjmjodmacaaGreatDoor.Sha
