/- What a line asks for, as the specification reads it. (Written by py/cnp.py.) -/
import Derived.Test.YtihhbngpajephaaDoorCnH
import Derived.Test.YtihhbngpajephaaDoorTk
import Derived.Test.YtihhbngpajephaaDoorNumA
namespace Go.Proofs.YtihhbngpajephaaDoor.Sha
open Go.ChangeShapes Go.WideShapes Go.ChangeAt Go.RowKit
set_option linter.unusedVariables false
set_option linter.unusedSimpArgs false

def isW (s : ByteArray) (l : List UInt8) : Bool := s.toList == l
def aloneB (s : ByteArray) : Bool := isW s [114, 111, 111, 116] || (isW s [115, 105, 122, 101] || isW s [108, 105, 115, 116])
def askB (s : ByteArray) : Bool := isW s [108, 101, 97, 102] || isW s [118, 97, 108, 117, 101]
/-- A doing word's kind; 0: none. -/
def kindN (s : ByteArray) : Nat → Int
  | 0 => 0
  | k + 1 => if isW s (([[], [112, 117, 116], [97, 100, 100], [100, 114, 111, 112], [111, 112, 101, 110], [115, 104, 117, 116]] : List (List UInt8)).getD k []) = true ∧ 0 < k then (k : Int) else kindN s k
theorem kindN_one (s : ByteArray) : kindN s 1 = 0 := by
  show (if _ then _ else _) = _
  rw [if_neg (fun e => absurd e.2 (Nat.lt_irrefl 0))]
  rfl
/-- What a command's line tells: the command, what, word, whether it is one. -/
def l17P (l : List ByteArray) : (Int × Int × Int × ByteArray × ByteArray) × ByteArray × ByteArray × Bool :=
  let s := l.getD 0 ByteArray.empty
  let z : Int × Int × Int × ByteArray × ByteArray := (0, 0, 0, ⟨#[]⟩, ⟨#[]⟩)
  let k := kindN s 6
  if l.length = 1 ∧ aloneB s = true then (z, s, ⟨#[]⟩, true)
  else if l.length = 2 ∧ askB s = true then (z, s, l.getD 1 ByteArray.empty, true)
  else if k = 0 ∨ l.length < 2 then (z, ⟨#[]⟩, ⟨#[]⟩, false)
  else if 4 ≤ k then ((k, (numT (l.getD 1 ByteArray.empty)).1, 0, ⟨#[]⟩, ⟨#[]⟩), ⟨#[100, 111]⟩, ⟨#[]⟩, (numT (l.getD 1 ByteArray.empty)).2 && (decide (l.length = 2) && cmdOK k (numT (l.getD 1 ByteArray.empty)).1 0 ⟨#[]⟩ ⟨#[]⟩))
  else if (l.length : Int) ≠ 4 + (if k ≠ 3 then 1 else 0) then (z, ⟨#[]⟩, ⟨#[]⟩, false)
  else
    let v := if k ≠ 3 then l.getD 4 ByteArray.empty else ⟨#[]⟩
    ((k, (numT (l.getD 1 ByteArray.empty)).1, (numT (l.getD 2 ByteArray.empty)).1, l.getD 3 ByteArray.empty, v), ⟨#[100, 111]⟩, ⟨#[]⟩, (numT (l.getD 1 ByteArray.empty)).2 && ((numT (l.getD 2 ByteArray.empty)).2 && cmdOK k (numT (l.getD 1 ByteArray.empty)).1 (numT (l.getD 2 ByteArray.empty)).1 (l.getD 3 ByteArray.empty) v))
def l17E (x : (Int × Int × Int × ByteArray × ByteArray) × ByteArray × ByteArray × Bool) (w : World) (e : Ending) (w' : World) : Prop :=
  e = .returned (.tuple #[.agg #[.int .i64 x.1.1, .int .i64 x.1.2.1, .int .i64 x.1.2.2.1, .string x.1.2.2.2.1, .string x.1.2.2.2.2], .string x.2.1, .string x.2.2.1, .bool x.2.2.2]) ∧ Below w.heap.size w w'
theorem l17E.tell {x y : (Int × Int × Int × ByteArray × ByteArray) × ByteArray × ByteArray × Bool} {w w' : World} {e : Ending} (h : x = y) (hx : l17E y w e w') : l17E x w e w' := by rw [h]; exact hx
theorem Blk.c5x {w : World} {b : Nat} {a0 a1 a2 a3 a4 : Value} (h : Blk w b [a0, a1, a2, a3, a4]) : (w.cell? ⟨b, 0, none⟩ = some a0 ∧ w.cell? ⟨b, 1, none⟩ = some a1 ∧ w.cell? ⟨b, 2, none⟩ = some a2 ∧ w.cell? ⟨b, 3, none⟩ = some a3 ∧ w.cell? ⟨b, 4, none⟩ = some a4) ∧ (w.frozen? ⟨b, 0, none⟩ = false ∧ w.frozen? ⟨b, 1, none⟩ = false ∧ w.frozen? ⟨b, 2, none⟩ = false ∧ w.frozen? ⟨b, 3, none⟩ = false ∧ w.frozen? ⟨b, 4, none⟩ = false) :=
  ⟨⟨h.cell 0 rfl, h.cell 1 rfl, h.cell 2 rfl, h.cell 3 rfl, h.cell 4 rfl⟩, h.fro 0, h.fro 1, h.fro 2, h.fro 3, h.fro 4⟩
abbrev set5q (w : World) (b : Nat) (x0 x1 x2 x3 x4 : Value) : World := (((((w.setCell ⟨b, 0, none⟩ x0).setCell ⟨b, 1, none⟩ x1).setCell ⟨b, 2, none⟩ x2).setCell ⟨b, 3, none⟩ x3).setCell ⟨b, 4, none⟩ x4)
theorem c5_set {w : World} {b : Nat} {a0 a1 a2 a3 a4 : Value} (h : Blk w b [a0, a1, a2, a3, a4]) (x0 x1 x2 x3 x4 : Value) : Blk (set5q w b x0 x1 x2 x3 x4) b [x0, x1, x2, x3, x4] :=
  (((((h.set 0 x0 (by simp)).set 1 x1 (by simp)).set 2 x2 (by simp)).set 3 x3 (by simp)).set 4 x4 (by simp))
theorem c5_touch (b : Nat) (w : World) (x0 x1 x2 x3 x4 : Value) : Touch (fun q => q = b) w (set5q w b x0 x1 x2 x3 x4) :=
  (((((Touch.refl (fun q => q = b) w).setCell ⟨b, 0, none⟩ x0 (fun _ => rfl)).setCell ⟨b, 1, none⟩ x1 (fun _ => rfl)).setCell ⟨b, 2, none⟩ x2 (fun _ => rfl)).setCell ⟨b, 3, none⟩ x3 (fun _ => rfl)).setCell ⟨b, 4, none⟩ x4 (fun _ => rfl)
set_option maxRecDepth 100000 in
theorem bit0 (w : World) : Calls Tryd.prog 17 #[.bool false] w fun e w' => e = .returned (.int .i64 0) ∧ w' = w := by
  go_enter Tryd.func17, Tryd.ntmps17
  go_wp2_with fail
  go_ret
  exact ⟨rfl, rfl⟩
set_option maxRecDepth 100000 in
theorem bit1 (w : World) : Calls Tryd.prog 17 #[.bool true] w fun e w' => e = .returned (.int .i64 1) ∧ w' = w := by
  go_enter Tryd.func17, Tryd.ntmps17
  go_wp2_with fail
  go_ret
  exact ⟨rfl, rfl⟩
theorem Wds.one {w w' : World} {b off cb : Nat} {l : List ByteArray} (h : Wds w b off l) (ht : Touch (fun q => q = cb) w w') (hne : b < cb) (hc : cb ≤ w.heap.size) : Wds w' b off l :=
  ⟨h.lm, Nat.lt_of_lt_of_le h.lb (ht.below hc (fun q hq e => by omega)).size, fun i hi => (ht.cell (p := ⟨b, off + i, none⟩) h.lb (fun e => by have e2 : b = cb := e; omega)).trans (h.lc i hi), h.lz⟩
set_option maxRecDepth 100000 in
set_option maxHeartbeats 8000000 in
theorem l17Read_any (b off cap : Nat) (l : List ByteArray) (w : World) (h0 : 0 < l.length) (hW : Wds w b off l) (hsz : ∀ i, (l.getD i ByteArray.empty).size ≤ 65536) :
    Calls Tryd.prog 8 #[.slice (some ⟨b, off, none⟩) l.length cap] w fun e w' => l17E (l17P l) w e w' := by
  have hm : l.length ≤ 9223372036854775807 := by have := hW.lm; unfold maxLen at this; omega
  have hl0 : (0 : Int) < (l.length : Int) := by omega
  have B0 := hide (((Below.refl w.heap.size w).alloc (Nat.le_refl _) (.cells #[.int .i64 0, .int .i64 0, .int .i64 0, .string ⟨#[]⟩, .string ⟨#[]⟩] 23)).alloc (by simp) (.cells #[.int .i64 0, .int .i64 0, .int .i64 0, .string ⟨#[]⟩, .string ⟨#[]⟩] 23))
  have R0 := hide ((Blk.new w #[.int .i64 0, .int .i64 0, .int .i64 0, .string ⟨#[]⟩, .string ⟨#[]⟩] 23 w.heap.size rfl).alloc (.cells #[.int .i64 0, .int .i64 0, .int .i64 0, .string ⟨#[]⟩, .string ⟨#[]⟩] 23))
  have N0 := hide (Blk.new (w.alloc (.cells #[.int .i64 0, .int .i64 0, .int .i64 0, .string ⟨#[]⟩, .string ⟨#[]⟩] 23)) #[.int .i64 0, .int .i64 0, .int .i64 0, .string ⟨#[]⟩, .string ⟨#[]⟩] 23 (w.heap.size + 1) (by simp))
  have W0 := hide (hW.below (unhide B0))
  have HBW := hide hW.lb
  have HSZ := hide hsz
  clear hsz
  obtain ⟨x, hx⟩ : ∃ x, x = l17P l := ⟨_, rfl⟩
  have HX := hide hx
  rw [← hx]
  clear hx
  go_enter Tryd.func8, Tryd.ntmps8
  go_upto_region 2 with fail
  generalize (w.alloc (.cells #[.int .i64 0, .int .i64 0, .int .i64 0, .string ⟨#[]⟩, .string ⟨#[]⟩] 23)).alloc (.cells #[.int .i64 0, .int .i64 0, .int .i64 0, .string ⟨#[]⟩, .string ⟨#[]⟩] 23) = w0 at *
  have c0 := (unhide W0).lc 0 h0
  rw [Nat.add_zero] at c0
  clear hW
  obtain ⟨s, hs⟩ : ∃ s, s = l.getD 0 ByteArray.empty := ⟨_, rfl⟩
  rw [← hs] at c0
  obtain ⟨p, hp⟩ : ∃ p, p = (decide (l.length = 1) && aloneB s) := ⟨_, rfl⟩
  have HP := hide hp
  clear hp
  go_cut [36] (fun t wx => t = .bool p ∧ wx = w0)
  case first =>
    by_cases h1 : l.length = 1
    · have hq : ((l.length : Int) == 1) = true := beq_iff_eq.2 (by omega)
      have HD9 := hide (decide_eq_true h1)
      have HS := hide hs
      clear h1 hs HX
      cases q0 : (s.toList == [114, 111, 111, 116]) <;> cases q1 : (s.toList == [115, 105, 122, 101]) <;> cases q2 : (s.toList == [108, 105, 115, 116])
      all_goals
        have e := unhide HP
        unfold aloneB isW at e
        rw [q0, q1, q2, unhide HD9] at e
        replace e := hide e
        go_wp2_with fail
        go_meet
        exact ⟨by rw [unhide e]; rfl, rfl⟩
    · have hq : ((l.length : Int) == 1) = false := beq_eq_false_iff_ne.2 (by omega)
      have e := unhide HP
      rw [decide_eq_false h1] at e
      replace e := hide e
      clear h1
      go_wp2_with fail
      go_meet
      exact ⟨by rw [unhide e]; rfl, rfl⟩
  case rest =>
    obtain ⟨rfl, hwc⟩ := hcut
    have hw0 : w0 = wc := hwc.symm
    clear hwc
    subst hw0
    cases p with
    | true =>
      have E := hide (show x = ((0, 0, 0, ⟨#[]⟩, ⟨#[]⟩), s, ⟨#[]⟩, true) from by
        have e := (unhide HP).symm
        rw [Bool.and_eq_true, decide_eq_true_eq] at e
        rw [unhide HX]; unfold l17P; rw [← hs]; exact if_pos e)
      have HS := hide hs
      have hbn : ¬ b = w.heap.size := by have := (unhide HBW); omega
      clear HP HX hs c0
      go_upto_region 3 with fail
      have hd : Below w0.heap.size w0 w0.drew := below_drewN (Below.refl w0.heap.size w0) 1
      have RD := hide ((unhide R0).below hd)
      have ND := hide ((unhide N0).below hd)
      have WD := hide ((unhide W0).below hd)
      have HK := hide ((unhide B0).trans (hd.mono (unhide B0).size))
      obtain ⟨⟨n0, n1, n2, n3, n4⟩, _⟩ := Blk.c5x (unhide ND)
      have c0 := (unhide WD).lc 0 h0
      rw [Nat.add_zero, ← unhide HS] at c0
      refine wp_region_held_drew (S := (fun wx => wx.cell? ⟨w.heap.size + 1, 0, none⟩ = some (.int .i64 0) ∧ wx.cell? ⟨w.heap.size + 1, 1, none⟩ = some (.int .i64 0) ∧ wx.cell? ⟨w.heap.size + 1, 2, none⟩ = some (.int .i64 0) ∧ wx.cell? ⟨w.heap.size + 1, 3, none⟩ = some (.string ⟨#[]⟩) ∧ wx.cell? ⟨w.heap.size + 1, 4, none⟩ = some (.string ⟨#[]⟩) ∧ wx.cell? ⟨b, off, none⟩ = some (.string s))) (by kernel_rfl) ?_ (fun hHeld => ?_)
      · exact ⟨n0, n1, n2, n3, n4, c0⟩
      clear hd
      generalize w0.drew = wd at *
      have hbl := (unhide WD).lb
      have hnl := (unhide ND).1
      refine tkH 0 rfl ?_
      refine tkH 1 rfl ?_
      refine tkH 2 rfl ?_
      refine tkH 3 rfl ?_
      obtain ⟨⟨x0, x1, x2, x3, x4⟩, g0, g1, g2, g3, g4⟩ := Blk.c5x (unhide RD)
      have HY := hide (c5_set (unhide RD) (.int .i64 0) (.int .i64 0) (.int .i64 0) (.string ⟨#[]⟩) (.string ⟨#[]⟩))
      have HT := hide (c5_touch w.heap.size wd (.int .i64 0) (.int .i64 0) (.int .i64 0) (.string ⟨#[]⟩) (.string ⟨#[]⟩))
      refine wpAnyH_ready (rs := [4]) (by kernel_rfl) (by simp) ?_
      refine AllReadyH.cons (o := _) rfl (fun K hK => ?_) AllReadyH.nil
      go_simp
      refine hK.out _ _ ?_ (fun hHeld => ?_)
      · exact ⟨((unhide HT).cell (p := ⟨w.heap.size + 1, 0, none⟩) hnl (fun e => by have e2 : w.heap.size + 1 = w.heap.size := e; omega)).trans n0, ((unhide HT).cell (p := ⟨w.heap.size + 1, 1, none⟩) hnl (fun e => by have e2 : w.heap.size + 1 = w.heap.size := e; omega)).trans n1, ((unhide HT).cell (p := ⟨w.heap.size + 1, 2, none⟩) hnl (fun e => by have e2 : w.heap.size + 1 = w.heap.size := e; omega)).trans n2, ((unhide HT).cell (p := ⟨w.heap.size + 1, 3, none⟩) hnl (fun e => by have e2 : w.heap.size + 1 = w.heap.size := e; omega)).trans n3, ((unhide HT).cell (p := ⟨w.heap.size + 1, 4, none⟩) hnl (fun e => by have e2 : w.heap.size + 1 = w.heap.size := e; omega)).trans n4, ((unhide HT).cell (p := ⟨b, off, none⟩) hbl hbn).trans c0⟩
      clear hK K
      (try simp only [Act.put, List.getElem_toArray, List.getElem_cons_succ, List.getElem_cons_zero, List.setIfInBounds_toArray, List.set_cons_zero, List.set_cons_succ])
      refine tkH 5 rfl ?_
      refine tkH 6 rfl ?_
      refine tkH 7 rfl ?_
      refine wpAnyH_done (by kernel_rfl) ?_ _
      clear x0 x1 x2 x3 x4 g0 g1 g2 g3 g4 hHeld
      go_wp2_with fail
      obtain ⟨⟨z0, z1, z2, z3, z4⟩, _⟩ := Blk.c5x (unhide HY)
      refine bodyPost_ret (v := .tuple #[.agg #[.int .i64 0, .int .i64 0, .int .i64 0, .string ⟨#[]⟩, .string ⟨#[]⟩], .string s, .string ⟨#[]⟩, .bool true]) (by simp [results, Tryd.results8, go_sem, z0, z1, z2, z3, z4]) rfl ?_
      refine l17E.tell (unhide E) ⟨rfl, (unhide HK).trans ((unhide HT).below (unhide HK).size (fun q hq e => by omega))⟩
    | false =>
      have E1 := hide (show ¬ (l.length = 1 ∧ aloneB s = true) from by
        intro e
        have e2 := unhide HP
        rw [decide_eq_true e.1, e.2] at e2
        cases e2)
      clear HP
      obtain ⟨p, hp⟩ : ∃ p, p = (decide (l.length = 2) && askB s) := ⟨_, rfl⟩
      have HP := hide hp
      clear hp
      have HS := hide hs
      clear hs
      go_upto_region 4 with fail
      go_cut [55] (fun t wx => t = .bool p ∧ wx = w0)
      case first =>
        by_cases h1 : l.length = 2
        · have hq : ((l.length : Int) == 2) = true := beq_iff_eq.2 (by omega)
          have HD9 := hide (decide_eq_true h1)
          clear h1 HX
          cases q0 : (s.toList == [108, 101, 97, 102]) <;> cases q1 : (s.toList == [118, 97, 108, 117, 101])
          all_goals
            have e := unhide HP
            unfold askB isW at e
            rw [q0, q1, unhide HD9] at e
            replace e := hide e
            go_wp2_with fail
            go_meet
            exact ⟨by rw [unhide e]; rfl, rfl⟩
        · have hq : ((l.length : Int) == 2) = false := beq_eq_false_iff_ne.2 (by omega)
          have e := unhide HP
          rw [decide_eq_false h1] at e
          replace e := hide e
          clear h1
          go_wp2_with fail
          go_meet
          exact ⟨by rw [unhide e]; rfl, rfl⟩
      case rest =>
        obtain ⟨rfl, hwc⟩ := hcut
        have hw0 : w0 = wc := hwc.symm
        clear hwc
        subst hw0
        cases p with
        | true =>
          have e9 := (unhide HP).symm
          rw [Bool.and_eq_true, decide_eq_true_eq] at e9
          have h2l : 1 < l.length := by omega
          have hl1 : (1 : Int) < (l.length : Int) := by omega
          obtain ⟨t, ht⟩ : ∃ t, t = l.getD 1 ByteArray.empty := ⟨_, rfl⟩
          have HTT := hide ht
          have E := hide (show x = ((0, 0, 0, ⟨#[]⟩, ⟨#[]⟩), s, t, true) from by
            rw [unhide HX]; unfold l17P; rw [← unhide HS, ← ht]; exact (if_neg (unhide E1)).trans (if_pos e9))
          have hbn : ¬ b = w.heap.size := by have := (unhide HBW); omega
          clear HP HX c0 e9 ht E1
          go_upto_region 5 with fail
          have hd : Below w0.heap.size w0 w0.drew := below_drewN (Below.refl w0.heap.size w0) 1
          have RD := hide ((unhide R0).below hd)
          have ND := hide ((unhide N0).below hd)
          have WD := hide ((unhide W0).below hd)
          have HK := hide ((unhide B0).trans (hd.mono (unhide B0).size))
          obtain ⟨⟨n0, n1, n2, n3, n4⟩, _⟩ := Blk.c5x (unhide ND)
          have c0 := (unhide WD).lc 0 h0
          rw [Nat.add_zero, ← unhide HS] at c0
          have c1 := (unhide WD).lc 1 h2l
          rw [← unhide HTT] at c1
          refine wp_region_held_drew (S := (fun wx => wx.cell? ⟨w.heap.size + 1, 0, none⟩ = some (.int .i64 0) ∧ wx.cell? ⟨w.heap.size + 1, 1, none⟩ = some (.int .i64 0) ∧ wx.cell? ⟨w.heap.size + 1, 2, none⟩ = some (.int .i64 0) ∧ wx.cell? ⟨w.heap.size + 1, 3, none⟩ = some (.string ⟨#[]⟩) ∧ wx.cell? ⟨w.heap.size + 1, 4, none⟩ = some (.string ⟨#[]⟩) ∧ wx.cell? ⟨b, off, none⟩ = some (.string s) ∧ wx.cell? ⟨b, off + 1, none⟩ = some (.string t))) (by kernel_rfl) ?_ (fun hHeld => ?_)
          · exact ⟨n0, n1, n2, n3, n4, c0, c1⟩
          clear hd
          generalize w0.drew = wd at *
          have hbl := (unhide WD).lb
          have hnl := (unhide ND).1
          refine tkH 0 rfl ?_
          refine tkH 1 rfl ?_
          refine tkH 2 rfl ?_
          refine tkH 3 rfl ?_
          refine tkH 4 rfl ?_
          refine tkH 5 rfl ?_
          refine tkH 6 rfl ?_
          obtain ⟨⟨x0, x1, x2, x3, x4⟩, g0, g1, g2, g3, g4⟩ := Blk.c5x (unhide RD)
          have HY := hide (c5_set (unhide RD) (.int .i64 0) (.int .i64 0) (.int .i64 0) (.string ⟨#[]⟩) (.string ⟨#[]⟩))
          have HT := hide (c5_touch w.heap.size wd (.int .i64 0) (.int .i64 0) (.int .i64 0) (.string ⟨#[]⟩) (.string ⟨#[]⟩))
          refine wpAnyH_ready (rs := [7]) (by kernel_rfl) (by simp) ?_
          refine AllReadyH.cons (o := _) rfl (fun K hK => ?_) AllReadyH.nil
          go_simp
          refine hK.out _ _ ?_ (fun hHeld => ?_)
          · exact ⟨((unhide HT).cell (p := ⟨w.heap.size + 1, 0, none⟩) hnl (fun e => by have e2 : w.heap.size + 1 = w.heap.size := e; omega)).trans n0, ((unhide HT).cell (p := ⟨w.heap.size + 1, 1, none⟩) hnl (fun e => by have e2 : w.heap.size + 1 = w.heap.size := e; omega)).trans n1, ((unhide HT).cell (p := ⟨w.heap.size + 1, 2, none⟩) hnl (fun e => by have e2 : w.heap.size + 1 = w.heap.size := e; omega)).trans n2, ((unhide HT).cell (p := ⟨w.heap.size + 1, 3, none⟩) hnl (fun e => by have e2 : w.heap.size + 1 = w.heap.size := e; omega)).trans n3, ((unhide HT).cell (p := ⟨w.heap.size + 1, 4, none⟩) hnl (fun e => by have e2 : w.heap.size + 1 = w.heap.size := e; omega)).trans n4, ((unhide HT).cell (p := ⟨b, off, none⟩) hbl hbn).trans c0, ((unhide HT).cell (p := ⟨b, off + 1, none⟩) hbl hbn).trans c1⟩
          clear hK K
          (try simp only [Act.put, List.getElem_toArray, List.getElem_cons_succ, List.getElem_cons_zero, List.setIfInBounds_toArray, List.set_cons_zero, List.set_cons_succ])
          refine tkH 8 rfl ?_
          refine tkH 9 rfl ?_
          refine tkH 10 rfl ?_
          refine wpAnyH_done (by kernel_rfl) ?_ _
          clear x0 x1 x2 x3 x4 g0 g1 g2 g3 g4 hHeld
          go_wp2_with fail
          obtain ⟨⟨z0, z1, z2, z3, z4⟩, _⟩ := Blk.c5x (unhide HY)
          refine bodyPost_ret (v := .tuple #[.agg #[.int .i64 0, .int .i64 0, .int .i64 0, .string ⟨#[]⟩, .string ⟨#[]⟩], .string s, .string t, .bool true]) (by simp [results, Tryd.results8, go_sem, z0, z1, z2, z3, z4]) rfl ?_
          refine l17E.tell (unhide E) ⟨rfl, (unhide HK).trans ((unhide HT).below (unhide HK).size (fun q hq e => by omega))⟩
        | false =>
          have E2 := hide (show ¬ (l.length = 2 ∧ askB s = true) from by
            intro e
            have e2 := unhide HP
            rw [decide_eq_true e.1, e.2] at e2
            cases e2)
          clear HP
          have ZB := (Below.refl w0.heap.size w0).alloc (Nat.le_refl _) (.cells #[.string ⟨#[]⟩, .string ⟨#[112, 117, 116]⟩, .string ⟨#[97, 100, 100]⟩, .string ⟨#[100, 114, 111, 112]⟩, .string ⟨#[111, 112, 101, 110]⟩, .string ⟨#[115, 104, 117, 116]⟩] 9)
          have Z1 := hide (Blk.new w0 #[.string ⟨#[]⟩, .string ⟨#[112, 117, 116]⟩, .string ⟨#[97, 100, 100]⟩, .string ⟨#[100, 114, 111, 112]⟩, .string ⟨#[111, 112, 101, 110]⟩, .string ⟨#[115, 104, 117, 116]⟩] 9 w0.heap.size rfl)
          have R1 := hide ((unhide R0).below ZB)
          have N1 := hide ((unhide N0).below ZB)
          have W1 := hide ((unhide W0).below ZB)
          have B1 := hide ((unhide B0).trans (ZB.mono (unhide B0).size))
          clear ZB R0 N0 W0 B0 c0
          go_upto_region 9 with fail
          generalize w0.alloc (.cells #[.string ⟨#[]⟩, .string ⟨#[112, 117, 116]⟩, .string ⟨#[97, 100, 100]⟩, .string ⟨#[100, 114, 111, 112]⟩, .string ⟨#[111, 112, 101, 110]⟩, .string ⟨#[115, 104, 117, 116]⟩] 9) = w1 at *
          generalize w0.heap.size = zb at *
          go_loopw [8, 9] (fun kv i wr => ∃ q : Nat, 1 ≤ q ∧ q ≤ 6 ∧ i = .int .i64 q ∧ kv = .int .i64 (kindN s q) ∧ Hid (Below w1.heap.size w1 wr)) (fun _ i _ => 6 - (intOf i).toNat)
          case atStart => exact ⟨1, Nat.le_refl _, by omega, rfl, by rw [kindN_one], hide (Below.refl _ _)⟩
          case round =>
            obtain ⟨q, hq1, hq6, rfl, rfl, HB⟩ := hrel
            have Zr := (unhide Z1).below (unhide HB)
            have Wr := (unhide W1).below (unhide HB)
            have c0 := Wr.lc 0 h0
            rw [Nat.add_zero, ← unhide HS] at c0
            by_cases hlt : q < 6
            · obtain ⟨u, hu, hul⟩ : ∃ u : ByteArray, wr.cell? ⟨zb, q, none⟩ = some (.string u) ∧ (u.toList == s.toList) = isW s (([[], [112, 117, 116], [97, 100, 100], [100, 114, 111, 112], [111, 112, 101, 110], [115, 104, 117, 116]] : List (List UInt8)).getD q []) := by
                have hc : ∀ x : ByteArray, ∀ L, x.data.toList = L → (x.toList == s.toList) = isW s L := by
                  intro x L e
                  unfold isW
                  rw [ByteArray.toList_eq x, e, Bool.eq_iff_iff, beq_iff_eq, beq_iff_eq]
                  exact eq_comm
                have h5 : q = 1 ∨ q = 2 ∨ q = 3 ∨ q = 4 ∨ q = 5 := by omega
                rcases h5 with rfl | rfl | rfl | rfl | rfl
                · exact ⟨_, Zr.cell 1 rfl, hc _ _ rfl⟩
                · exact ⟨_, Zr.cell 2 rfl, hc _ _ rfl⟩
                · exact ⟨_, Zr.cell 3 rfl, hc _ _ rfl⟩
                · exact ⟨_, Zr.cell 4 rfl, hc _ _ rfl⟩
                · exact ⟨_, Zr.cell 5 rfl, hc _ _ rfl⟩
              have HK1 := hide (show kindN s (q + 1) = if isW s (([[], [112, 117, 116], [97, 100, 100], [100, 114, 111, 112], [111, 112, 101, 110], [115, 104, 117, 116]] : List (List UInt8)).getD q []) = true ∧ 0 < q then (q : Int) else kindN s q from rfl)
              generalize kindN s q = k0 at *
              generalize isW s (([[], [112, 117, 116], [97, 100, 100], [100, 114, 111, 112], [111, 112, 101, 110], [115, 104, 117, 116]] : List (List UInt8)).getD q []) = m at *
              have hq0 : (0 : Int) ≤ (q : Int) := by omega
              have hq7 : (q : Int) < 6 := by omega
              clear Zr Wr E1 E2 HX
              go_upto_region 11 with fail
              cases m with
              | true =>
                have ek := hide ((unhide HK1).trans (if_pos ⟨rfl, by omega⟩))
                go_quiet (fail)
                go_wp2_with fail
                refine ⟨⟨q + 1, by omega, by omega, by go_num, by rw [unhide ek], hide (below_drewN (unhide HB) _)⟩, ?_⟩
                simp [intOf]; omega
              | false =>
                have ek := hide ((unhide HK1).trans (if_neg (fun e => by cases e.1)))
                go_quiet (fail)
                go_wp2_with fail
                refine ⟨⟨q + 1, by omega, by omega, by go_num, by rw [unhide ek], hide (below_drewN (unhide HB) _)⟩, ?_⟩
                simp [intOf]; omega
            · obtain rfl : q = 6 := by omega
              have B2 := hide ((unhide B1).trans ((unhide HB).mono (unhide B1).size))
              have R2 := hide ((unhide R1).below (unhide HB))
              have N2 := hide ((unhide N1).below (unhide HB))
              have W2 := hide Wr
              clear HB B1 R1 N1 W1 Z1 Zr Wr c0
              by_cases hbad : kindN s 6 = 0 ∨ l.length < 2
              · have E := hide (show x = ((0, 0, 0, ⟨#[]⟩, ⟨#[]⟩), ⟨#[]⟩, ⟨#[]⟩, false) from by
                  rw [unhide HX]; unfold l17P; rw [← unhide HS]; exact ((if_neg (unhide E1)).trans (if_neg (unhide E2))).trans (if_pos hbad))
                clear HX E1 E2
                generalize kindN s 6 = k at *
                by_cases hk : k = 0
                · have hq : (k == 0) = true := beq_iff_eq.2 hk
                  clear hk hbad
                  have HY := hide (c5_set (unhide R2) (.int .i64 0) (.int .i64 0) (.int .i64 0) (.string ⟨#[]⟩) (.string ⟨#[]⟩))
                  have HT := hide (c5_touch w.heap.size wr (.int .i64 0) (.int .i64 0) (.int .i64 0) (.string ⟨#[]⟩) (.string ⟨#[]⟩))
                  obtain ⟨⟨x0, x1, x2, x3, x4⟩, g0, g1, g2, g3, g4⟩ := Blk.c5x (unhide R2)
                  obtain ⟨⟨n0, n1, n2, n3, n4⟩, _⟩ := Blk.c5x (unhide N2)
                  clear R2 N2 W2
                  go_wp2_with fail
                  obtain ⟨⟨z0, z1, z2, z3, z4⟩, _⟩ := Blk.c5x (unhide HY)
                  refine bodyPost_ret (v := .tuple #[.agg #[.int .i64 0, .int .i64 0, .int .i64 0, .string ⟨#[]⟩, .string ⟨#[]⟩], .string ⟨#[]⟩, .string ⟨#[]⟩, .bool false]) (by simp [results, Tryd.results8, go_sem, z0, z1, z2, z3, z4]) rfl ?_
                  refine l17E.tell (unhide E) ⟨rfl, (unhide B2).trans ((unhide HT).below (unhide B2).size (fun q hq e => by omega))⟩
                · have hq : (k == 0) = false := beq_eq_false_iff_ne.2 hk
                  have hl2 : decide ((l.length : Int) < 2) = true := decide_eq_true (by rcases hbad with h | h <;> omega)
                  have hl3 : (l.length : Int) < 2 := of_decide_eq_true hl2
                  clear hk hbad
                  have HY := hide (c5_set (unhide R2) (.int .i64 0) (.int .i64 0) (.int .i64 0) (.string ⟨#[]⟩) (.string ⟨#[]⟩))
                  have HT := hide (c5_touch w.heap.size wr (.int .i64 0) (.int .i64 0) (.int .i64 0) (.string ⟨#[]⟩) (.string ⟨#[]⟩))
                  obtain ⟨⟨x0, x1, x2, x3, x4⟩, g0, g1, g2, g3, g4⟩ := Blk.c5x (unhide R2)
                  obtain ⟨⟨n0, n1, n2, n3, n4⟩, _⟩ := Blk.c5x (unhide N2)
                  clear R2 N2 W2
                  go_wp2_with fail
                  obtain ⟨⟨z0, z1, z2, z3, z4⟩, _⟩ := Blk.c5x (unhide HY)
                  refine bodyPost_ret (v := .tuple #[.agg #[.int .i64 0, .int .i64 0, .int .i64 0, .string ⟨#[]⟩, .string ⟨#[]⟩], .string ⟨#[]⟩, .string ⟨#[]⟩, .bool false]) (by simp [results, Tryd.results8, go_sem, z0, z1, z2, z3, z4]) rfl ?_
                  refine l17E.tell (unhide E) ⟨rfl, (unhide B2).trans ((unhide HT).below (unhide B2).size (fun q hq e => by omega))⟩
              · obtain ⟨hk0, hl2⟩ : ¬ kindN s 6 = 0 ∧ 2 ≤ l.length := by
                  refine ⟨fun e => hbad (.inl e), ?_⟩
                  rcases Nat.lt_or_ge l.length 2 with h | h
                  · exact absurd (.inr h) hbad
                  · exact h
                have E3 := hide (show x = (if 4 ≤ kindN s 6 then ((kindN s 6, (numT (l.getD 1 ByteArray.empty)).1, 0, ⟨#[]⟩, ⟨#[]⟩), ⟨#[100, 111]⟩, ⟨#[]⟩, (numT (l.getD 1 ByteArray.empty)).2 && (decide (l.length = 2) && cmdOK (kindN s 6) (numT (l.getD 1 ByteArray.empty)).1 0 ⟨#[]⟩ ⟨#[]⟩)) else if (l.length : Int) ≠ 4 + (if kindN s 6 ≠ 3 then 1 else 0) then ((0, 0, 0, ⟨#[]⟩, ⟨#[]⟩), ⟨#[]⟩, ⟨#[]⟩, false) else ((kindN s 6, (numT (l.getD 1 ByteArray.empty)).1, (numT (l.getD 2 ByteArray.empty)).1, (l.getD 3 ByteArray.empty), (if kindN s 6 ≠ 3 then l.getD 4 ByteArray.empty else ⟨#[]⟩)), ⟨#[100, 111]⟩, ⟨#[]⟩, (numT (l.getD 1 ByteArray.empty)).2 && ((numT (l.getD 2 ByteArray.empty)).2 && cmdOK (kindN s 6) (numT (l.getD 1 ByteArray.empty)).1 (numT (l.getD 2 ByteArray.empty)).1 (l.getD 3 ByteArray.empty) (if kindN s 6 ≠ 3 then l.getD 4 ByteArray.empty else ⟨#[]⟩)))) from by rw [unhide HX]; unfold l17P; rw [← unhide HS]; exact ((if_neg (unhide E1)).trans (if_neg (unhide E2))).trans (if_neg hbad))
                clear HX
                clear E1 E2 hbad
                have HNB := hide (l00Number_any (l.getD 1 ByteArray.empty) wr (unhide HSZ 1))
                have c1 := (unhide W2).lc 1 (by omega)
                generalize kindN s 6 = k at *
                generalize l.getD 1 ByteArray.empty = t1 at *
                generalize numT t1 = n1 at *
                obtain ⟨v1, y1⟩ := n1
                dsimp only at HNB
                have hq : (k == 0) = false := beq_eq_false_iff_ne.2 hk0
                have hl3 : ¬ (l.length : Int) < 2 := by omega
                have hl1 : (1 : Int) < (l.length : Int) := by omega
                go_wp2_with fail
                refine (unhide HNB).mono ?_
                rintro e w9 ⟨rfl, hw9⟩
                subst w9
                have BA := (Below.refl wr.heap.size wr).alloc (Nat.le_refl _) (.cells #[.int .i64 k, .int .i64 v1, .int .i64 0, .string ⟨#[]⟩, .string ⟨#[]⟩] 23)
                have C3 := hide (Blk.new wr #[.int .i64 k, .int .i64 v1, .int .i64 0, .string ⟨#[]⟩, .string ⟨#[]⟩] 23 wr.heap.size rfl)
                have B3 := hide ((unhide B2).trans (BA.mono (unhide B2).size))
                have R3 := hide ((unhide R2).below BA)
                have N3 := hide ((unhide N2).below BA)
                have W3 := hide ((unhide W2).below BA)
                have hcb : w.heap.size < wr.heap.size := (unhide R2).1
                clear BA B2 R2 N2 W2 HNB c1 hl3 hl1
                go_upto_region 17 with fail
                generalize wr.alloc (.cells #[.int .i64 k, .int .i64 v1, .int .i64 0, .string ⟨#[]⟩, .string ⟨#[]⟩] 23) = w3 at *
                generalize wr.heap.size = cb at *
                by_cases h4 : 4 ≤ k
                · have E := hide ((unhide E3).trans (if_pos h4))
                  have hk4 : decide (k ≥ 4) = true := decide_eq_true h4
                  have HOK := hide (fun wx => specCommandOK_any k v1 0 ⟨#[]⟩ ⟨#[]⟩ wx (by decide) (by decide))
                  clear E3
                  generalize cmdOK k v1 0 ⟨#[]⟩ ⟨#[]⟩ = ok at *
                  go_upto_region 18 with fail
                  cases y1 with
                  | false =>
                    replace E := hide (show x = ((k, v1, 0, ⟨#[]⟩, ⟨#[]⟩), ⟨#[100, 111]⟩, ⟨#[]⟩, false) from unhide E)
                    have hd : Below w3.heap.size w3 w3.drew := below_drewN (Below.refl w3.heap.size w3) 1
                    have RD := hide ((unhide R3).below hd)
                    have CD := hide ((unhide C3).below hd)
                    have HK := hide ((unhide B3).trans (hd.mono (unhide B3).size))
                    obtain ⟨⟨n0, n1, n2, n3, n4⟩, _⟩ := Blk.c5x (unhide CD)
                    refine wp_region_held_drew (S := (fun wx => wx.cell? ⟨cb, 0, none⟩ = some (.int .i64 k) ∧ wx.cell? ⟨cb, 1, none⟩ = some (.int .i64 v1) ∧ wx.cell? ⟨cb, 2, none⟩ = some (.int .i64 0) ∧ wx.cell? ⟨cb, 3, none⟩ = some (.string ⟨#[]⟩) ∧ wx.cell? ⟨cb, 4, none⟩ = some (.string ⟨#[]⟩))) (by kernel_rfl) ?_ (fun hHeld => ?_)
                    · exact ⟨n0, n1, n2, n3, n4⟩
                    clear hd R3 C3 B3
                    generalize w3.drew = wd at *
                    refine tkH 0 rfl ?_
                    refine tkH 1 rfl ?_
                    refine tkH 2 rfl ?_
                    refine wpAnyH_take (i := 3) (oi := _) (v := undef) rfl (by kernel_rfl) (by kernel_rfl) (by kernel_rfl) (fun _ _ _ h => h) (Or.inr ⟨by rfl, rfl⟩) (by assumption) ?_
                    (try simp only [Act.put, List.getElem_toArray, List.getElem_cons_succ, List.getElem_cons_zero, List.setIfInBounds_toArray, List.set_cons_zero, List.set_cons_succ])
                    refine wpAnyH_take (i := 4) (oi := _) (v := undef) rfl (by kernel_rfl) (by kernel_rfl) (by kernel_rfl) (fun _ _ _ h => h) (Or.inr ⟨by rfl, rfl⟩) (by assumption) ?_
                    (try simp only [Act.put, List.getElem_toArray, List.getElem_cons_succ, List.getElem_cons_zero, List.setIfInBounds_toArray, List.set_cons_zero, List.set_cons_succ])
                    refine wpAnyH_take (i := 5) (oi := _) (v := undef) rfl (by kernel_rfl) (by kernel_rfl) (by kernel_rfl) (fun _ _ _ h => h) (Or.inr ⟨by rfl, rfl⟩) (by assumption) ?_
                    (try simp only [Act.put, List.getElem_toArray, List.getElem_cons_succ, List.getElem_cons_zero, List.setIfInBounds_toArray, List.set_cons_zero, List.set_cons_succ])
                    refine tkH 6 rfl ?_
                    refine tkH 7 rfl ?_
                    refine wpAnyH_take (i := 8) (oi := _) (v := undef) rfl (by kernel_rfl) (by kernel_rfl) (by kernel_rfl) (fun _ _ _ h => h) (Or.inr ⟨by rfl, rfl⟩) (by assumption) ?_
                    (try simp only [Act.put, List.getElem_toArray, List.getElem_cons_succ, List.getElem_cons_zero, List.setIfInBounds_toArray, List.set_cons_zero, List.set_cons_succ])
                    refine wpAnyH_take (i := 9) (oi := _) (v := undef) rfl (by kernel_rfl) (by kernel_rfl) (by kernel_rfl) (fun _ _ _ h => h) (Or.inr ⟨by rfl, rfl⟩) (by assumption) ?_
                    (try simp only [Act.put, List.getElem_toArray, List.getElem_cons_succ, List.getElem_cons_zero, List.setIfInBounds_toArray, List.set_cons_zero, List.set_cons_succ])
                    refine tkH 10 rfl ?_
                    have HY := hide (c5_set (unhide RD) (.int .i64 k) (.int .i64 v1) (.int .i64 0) (.string ⟨#[]⟩) (.string ⟨#[]⟩))
                    have HT := hide (c5_touch w.heap.size wd (.int .i64 k) (.int .i64 v1) (.int .i64 0) (.string ⟨#[]⟩) (.string ⟨#[]⟩))
                    have hCT := (unhide CD).kept (unhide HT) (fun e => by omega)
                    obtain ⟨⟨x0, x1, x2, x3, x4⟩, g0, g1, g2, g3, g4⟩ := Blk.c5x (unhide RD)
                    refine wpAnyH_ready (rs := [11]) (by kernel_rfl) (by simp) ?_
                    refine AllReadyH.cons (o := _) rfl (fun K hK => ?_) AllReadyH.nil
                    go_simp
                    refine hK.out _ _ ?_ (fun hHeld => ?_)
                    · obtain ⟨⟨n0, n1, n2, n3, n4⟩, _⟩ := Blk.c5x hCT
                      exact ⟨n0, n1, n2, n3, n4⟩
                    clear hK K hCT
                    (try simp only [Act.put, List.getElem_toArray, List.getElem_cons_succ, List.getElem_cons_zero, List.setIfInBounds_toArray, List.set_cons_zero, List.set_cons_succ])
                    refine tkH 12 rfl ?_
                    refine tkH 13 rfl ?_
                    refine tkH 14 rfl ?_
                    refine wpAnyH_done (by kernel_rfl) ?_ _
                    clear x0 x1 x2 x3 x4 g0 g1 g2 g3 g4 hHeld
                    go_wp2_with fail
                    obtain ⟨⟨z0, z1, z2, z3, z4⟩, _⟩ := Blk.c5x (unhide HY)
                    refine bodyPost_ret (v := .tuple #[.agg #[.int .i64 k, .int .i64 v1, .int .i64 0, .string ⟨#[]⟩, .string ⟨#[]⟩], .string ⟨#[100, 111]⟩, .string ⟨#[]⟩, .bool false]) (by simp [results, Tryd.results8, go_sem, z0, z1, z2, z3, z4]) rfl ?_
                    refine l17E.tell (unhide E) ⟨rfl, (unhide HK).trans ((unhide HT).below (unhide HK).size (fun q hq e => by omega))⟩
                  | true =>
                    by_cases h2 : l.length = 2
                    · have hq2 : ((l.length : Int) == 2) = true := beq_iff_eq.2 (by omega)
                      have hdl : decide (l.length = 2) = true := decide_eq_true h2
                      rw [hdl] at E
                      replace E := hide (show x = ((k, v1, 0, ⟨#[]⟩, ⟨#[]⟩), ⟨#[100, 111]⟩, ⟨#[]⟩, ok) from (unhide E).trans (by rw [Bool.true_and, Bool.true_and]))
                      have hd : Below w3.heap.size w3 w3.drew := below_drewN (Below.refl w3.heap.size w3) 1
                      have RD := hide ((unhide R3).below hd)
                      have CD := hide ((unhide C3).below hd)
                      have HK := hide ((unhide B3).trans (hd.mono (unhide B3).size))
                      obtain ⟨⟨n0, n1, n2, n3, n4⟩, _⟩ := Blk.c5x (unhide CD)
                      refine wp_region_held_drew (S := (fun wx => wx.cell? ⟨cb, 0, none⟩ = some (.int .i64 k) ∧ wx.cell? ⟨cb, 1, none⟩ = some (.int .i64 v1) ∧ wx.cell? ⟨cb, 2, none⟩ = some (.int .i64 0) ∧ wx.cell? ⟨cb, 3, none⟩ = some (.string ⟨#[]⟩) ∧ wx.cell? ⟨cb, 4, none⟩ = some (.string ⟨#[]⟩))) (by kernel_rfl) ?_ (fun hHeld => ?_)
                      · exact ⟨n0, n1, n2, n3, n4⟩
                      clear hd R3 C3 B3
                      generalize w3.drew = wd at *
                      refine tkH 0 rfl ?_
                      refine tkH 1 rfl ?_
                      refine tkH 2 rfl ?_
                      refine tkH 3 rfl ?_
                      refine tkH 4 rfl ?_
                      refine tkH 5 rfl ?_
                      refine tkH 6 rfl ?_
                      refine tkH 7 rfl ?_
                      refine tkH 8 rfl ?_
                      refine wpAnyH_ready (rs := [9]) (by kernel_rfl) (by simp) ?_
                      refine AllReadyH.cons (o := _) rfl (fun K hK => ?_) AllReadyH.nil
                      go_simp
                      refine (unhide HOK _).mono ?_
                      rintro e w7 ⟨rfl, hb⟩
                      have CD := hide ((unhide CD).below hb)
                      have RD := hide ((unhide RD).below hb)
                      have HK := hide ((unhide HK).trans (hb.mono (unhide HK).size))
                      clear hb
                      go_wp2_with fail
                      refine hK.out _ _ ?_ (fun hHeld => ?_)
                      · obtain ⟨⟨n0, n1, n2, n3, n4⟩, _⟩ := Blk.c5x (unhide CD)
                        exact ⟨n0, n1, n2, n3, n4⟩
                      clear hK K n0 n1 n2 n3 n4
                      (try simp only [Act.put, List.getElem_toArray, List.getElem_cons_succ, List.getElem_cons_zero, List.setIfInBounds_toArray, List.set_cons_zero, List.set_cons_succ])
                      refine tkH 10 rfl ?_
                      have HY := hide (c5_set (unhide RD) (.int .i64 k) (.int .i64 v1) (.int .i64 0) (.string ⟨#[]⟩) (.string ⟨#[]⟩))
                      have HT := hide (c5_touch w.heap.size w7 (.int .i64 k) (.int .i64 v1) (.int .i64 0) (.string ⟨#[]⟩) (.string ⟨#[]⟩))
                      have hCT := (unhide CD).kept (unhide HT) (fun e => by omega)
                      obtain ⟨⟨x0, x1, x2, x3, x4⟩, g0, g1, g2, g3, g4⟩ := Blk.c5x (unhide RD)
                      refine wpAnyH_ready (rs := [11]) (by kernel_rfl) (by simp) ?_
                      refine AllReadyH.cons (o := _) rfl (fun K hK => ?_) AllReadyH.nil
                      go_simp
                      refine hK.out _ _ ?_ (fun hHeld => ?_)
                      · obtain ⟨⟨n0, n1, n2, n3, n4⟩, _⟩ := Blk.c5x hCT
                        exact ⟨n0, n1, n2, n3, n4⟩
                      clear hK K hCT
                      (try simp only [Act.put, List.getElem_toArray, List.getElem_cons_succ, List.getElem_cons_zero, List.setIfInBounds_toArray, List.set_cons_zero, List.set_cons_succ])
                      refine tkH 12 rfl ?_
                      refine tkH 13 rfl ?_
                      refine tkH 14 rfl ?_
                      refine wpAnyH_done (by kernel_rfl) ?_ _
                      clear x0 x1 x2 x3 x4 g0 g1 g2 g3 g4 hHeld
                      go_wp2_with fail
                      obtain ⟨⟨z0, z1, z2, z3, z4⟩, _⟩ := Blk.c5x (unhide HY)
                      refine bodyPost_ret (v := .tuple #[.agg #[.int .i64 k, .int .i64 v1, .int .i64 0, .string ⟨#[]⟩, .string ⟨#[]⟩], .string ⟨#[100, 111]⟩, .string ⟨#[]⟩, .bool ok]) (by simp [results, Tryd.results8, go_sem, z0, z1, z2, z3, z4]) rfl ?_
                      refine l17E.tell (unhide E) ⟨rfl, (unhide HK).trans ((unhide HT).below (unhide HK).size (fun q hq e => by omega))⟩
                    · have hq2 : ((l.length : Int) == 2) = false := beq_eq_false_iff_ne.2 (by omega)
                      have hdl : decide (l.length = 2) = false := decide_eq_false h2
                      rw [hdl] at E
                      replace E := hide (show x = ((k, v1, 0, ⟨#[]⟩, ⟨#[]⟩), ⟨#[100, 111]⟩, ⟨#[]⟩, false) from unhide E)
                      have hd : Below w3.heap.size w3 w3.drew := below_drewN (Below.refl w3.heap.size w3) 1
                      have RD := hide ((unhide R3).below hd)
                      have CD := hide ((unhide C3).below hd)
                      have HK := hide ((unhide B3).trans (hd.mono (unhide B3).size))
                      obtain ⟨⟨n0, n1, n2, n3, n4⟩, _⟩ := Blk.c5x (unhide CD)
                      refine wp_region_held_drew (S := (fun wx => wx.cell? ⟨cb, 0, none⟩ = some (.int .i64 k) ∧ wx.cell? ⟨cb, 1, none⟩ = some (.int .i64 v1) ∧ wx.cell? ⟨cb, 2, none⟩ = some (.int .i64 0) ∧ wx.cell? ⟨cb, 3, none⟩ = some (.string ⟨#[]⟩) ∧ wx.cell? ⟨cb, 4, none⟩ = some (.string ⟨#[]⟩))) (by kernel_rfl) ?_ (fun hHeld => ?_)
                      · exact ⟨n0, n1, n2, n3, n4⟩
                      clear hd R3 C3 B3
                      generalize w3.drew = wd at *
                      refine tkH 0 rfl ?_
                      refine tkH 1 rfl ?_
                      refine tkH 2 rfl ?_
                      refine tkH 3 rfl ?_
                      refine tkH 4 rfl ?_
                      refine tkH 5 rfl ?_
                      refine tkH 6 rfl ?_
                      refine tkH 7 rfl ?_
                      refine wpAnyH_take (i := 8) (oi := _) (v := undef) rfl (by kernel_rfl) (by kernel_rfl) (by kernel_rfl) (fun _ _ _ h => h) (Or.inr ⟨by rfl, rfl⟩) (by assumption) ?_
                      (try simp only [Act.put, List.getElem_toArray, List.getElem_cons_succ, List.getElem_cons_zero, List.setIfInBounds_toArray, List.set_cons_zero, List.set_cons_succ])
                      refine wpAnyH_take (i := 9) (oi := _) (v := undef) rfl (by kernel_rfl) (by kernel_rfl) (by kernel_rfl) (fun _ _ _ h => h) (Or.inr ⟨by rfl, rfl⟩) (by assumption) ?_
                      (try simp only [Act.put, List.getElem_toArray, List.getElem_cons_succ, List.getElem_cons_zero, List.setIfInBounds_toArray, List.set_cons_zero, List.set_cons_succ])
                      refine tkH 10 rfl ?_
                      have HY := hide (c5_set (unhide RD) (.int .i64 k) (.int .i64 v1) (.int .i64 0) (.string ⟨#[]⟩) (.string ⟨#[]⟩))
                      have HT := hide (c5_touch w.heap.size wd (.int .i64 k) (.int .i64 v1) (.int .i64 0) (.string ⟨#[]⟩) (.string ⟨#[]⟩))
                      have hCT := (unhide CD).kept (unhide HT) (fun e => by omega)
                      obtain ⟨⟨x0, x1, x2, x3, x4⟩, g0, g1, g2, g3, g4⟩ := Blk.c5x (unhide RD)
                      refine wpAnyH_ready (rs := [11]) (by kernel_rfl) (by simp) ?_
                      refine AllReadyH.cons (o := _) rfl (fun K hK => ?_) AllReadyH.nil
                      go_simp
                      refine hK.out _ _ ?_ (fun hHeld => ?_)
                      · obtain ⟨⟨n0, n1, n2, n3, n4⟩, _⟩ := Blk.c5x hCT
                        exact ⟨n0, n1, n2, n3, n4⟩
                      clear hK K hCT
                      (try simp only [Act.put, List.getElem_toArray, List.getElem_cons_succ, List.getElem_cons_zero, List.setIfInBounds_toArray, List.set_cons_zero, List.set_cons_succ])
                      refine tkH 12 rfl ?_
                      refine tkH 13 rfl ?_
                      refine tkH 14 rfl ?_
                      refine wpAnyH_done (by kernel_rfl) ?_ _
                      clear x0 x1 x2 x3 x4 g0 g1 g2 g3 g4 hHeld
                      go_wp2_with fail
                      obtain ⟨⟨z0, z1, z2, z3, z4⟩, _⟩ := Blk.c5x (unhide HY)
                      refine bodyPost_ret (v := .tuple #[.agg #[.int .i64 k, .int .i64 v1, .int .i64 0, .string ⟨#[]⟩, .string ⟨#[]⟩], .string ⟨#[100, 111]⟩, .string ⟨#[]⟩, .bool false]) (by simp [results, Tryd.results8, go_sem, z0, z1, z2, z3, z4]) rfl ?_
                      refine l17E.tell (unhide E) ⟨rfl, (unhide HK).trans ((unhide HT).below (unhide HK).size (fun q hq e => by omega))⟩
                · have E4 := hide ((unhide E3).trans (if_neg h4))
                  have hk4 : decide (k ≥ 4) = false := decide_eq_false h4
                  have hcb2 : cb < w3.heap.size := (unhide C3).1
                  clear E3 HS
                  by_cases hk3 : k = 3
                  · subst hk3
                    have E5 := unhide E4
                    rw [if_neg (show ¬ (3 : Int) ≠ 3 by simp), if_neg (show ¬ (3 : Int) ≠ 3 by simp)] at E5
                    replace E5 := hide E5
                    clear E4
                    go_wp2_with fail
                    refine (bit0 _).mono ?_
                    rintro e w9 ⟨rfl, hw9⟩
                    subst w9
                    by_cases hln : l.length = 4
                    · have hql : ((l.length : Int) != 4) = false := by simp [hln]
                      have E := hide ((unhide E5).trans (if_neg (by omega)))
                      clear E5
                      have hZZ := unhide HSZ
                      have HNB := hide (l00Number_any (l.getD 2 ByteArray.empty) w3 (hZZ 2))
                      have HOK := hide (fun (v2 : Int) wx => specCommandOK_any 3 v1 v2 (l.getD 3 ByteArray.empty) (⟨#[]⟩) wx (by have := hZZ 3; unfold maxLen; omega) (by decide))
                      have c2 := (unhide W3).lc 2 (by omega)
                      have HC3 := hide (fun wx (h : Wds wx b off l) => h.lc 3 (by omega))
                      clear hZZ HSZ N3
                      generalize l.getD 2 ByteArray.empty = t2 at *
                      generalize l.getD 3 ByteArray.empty = t3 at *
                      generalize numT t2 = n2 at *
                      obtain ⟨v2, y2⟩ := n2
                      dsimp only at HNB E
                      replace HOK := hide (unhide HOK v2)
                      generalize cmdOK 3 v1 v2 t3 ⟨#[]⟩ = ok at *
                      have hl2' : (2 : Int) < (l.length : Int) := by omega
                      have hl3' : (3 : Int) < (l.length : Int) := by omega
                      go_wp2_with fail
                      refine (unhide HNB).mono ?_
                      rintro e w9 ⟨rfl, hw9⟩
                      subst w9
                      clear HNB
                      go_upto_region 22 with fail
                      clear c2
                      have HT22 := hide ((Touch.refl (fun q => q = cb) w3).setCell ⟨cb, 2, none⟩ (.int .i64 v2) (fun _ => rfl))
                      have hcs := (unhide C3).1
                      have C4 := hide ((unhide C3).set 2 (.int .i64 v2) (by simp))
                      have R4 := hide ((unhide R3).kept (unhide HT22) (fun e => by omega))
                      have W4 := hide ((unhide W3).one (unhide HT22) (by have := (unhide HBW); omega) (by omega))
                      have B4 := hide ((unhide B3).trans ((unhide HT22).below (unhide B3).size (fun q hq e => by omega)))
                      obtain ⟨⟨x0, x1, x2, x3, x4⟩, g0, g1, g2, g3, g4⟩ := Blk.c5x (unhide C3)
                      go_upto_region 23 with fail
                      clear x0 x1 x2 x3 x4 g0 g1 g2 g3 g4 HT22 hcs
                      clear C3 R3 W3 B3
                      generalize w3.setCell ⟨cb, 2, none⟩ (.int .i64 v2) = w4 at *
                      have C3 := C4
                      have R3 := R4
                      have W3 := W4
                      have B3 := B4
                      clear C4 R4 W4 B4
                      have c3 := unhide HC3 _ (unhide W3)
                      have HT23 := hide ((Touch.refl (fun q => q = cb) w4).setCell ⟨cb, 3, none⟩ (.string t3) (fun _ => rfl))
                      have hcs := (unhide C3).1
                      have C4 := hide ((unhide C3).set 3 (.string t3) (by simp))
                      have R4 := hide ((unhide R3).kept (unhide HT23) (fun e => by omega))
                      have W4 := hide ((unhide W3).one (unhide HT23) (by have := (unhide HBW); omega) (by omega))
                      have B4 := hide ((unhide B3).trans ((unhide HT23).below (unhide B3).size (fun q hq e => by omega)))
                      obtain ⟨⟨x0, x1, x2, x3, x4⟩, g0, g1, g2, g3, g4⟩ := Blk.c5x (unhide C3)
                      go_upto_region 24 with fail
                      clear x0 x1 x2 x3 x4 g0 g1 g2 g3 g4 HT23 hcs
                      clear C3 R3 W3 B3
                      generalize w4.setCell ⟨cb, 3, none⟩ (.string t3) = w5 at *
                      have C3 := C4
                      have R3 := R4
                      have W3 := W4
                      have B3 := B4
                      clear C4 R4 W4 B4
                      clear c3 HC3
                      go_upto_region 26 with fail
                      cases y1 with
                      | false =>
                        replace E := hide (show x = ((3, v1, v2, t3, ⟨#[]⟩), ⟨#[100, 111]⟩, ⟨#[]⟩, false) from (unhide E).trans (by simp))
                        have hd : Below w5.heap.size w5 w5.drew := below_drewN (Below.refl w5.heap.size w5) 1
                        have RD := hide ((unhide R3).below hd)
                        have CD := hide ((unhide C3).below hd)
                        have HK := hide ((unhide B3).trans (hd.mono (unhide B3).size))
                        obtain ⟨⟨n0, n1, n2, n3, n4⟩, _⟩ := Blk.c5x (unhide CD)
                        refine wp_region_held_drew (S := (fun wx => wx.cell? ⟨cb, 0, none⟩ = some (.int .i64 3) ∧ wx.cell? ⟨cb, 1, none⟩ = some (.int .i64 v1) ∧ wx.cell? ⟨cb, 2, none⟩ = some (.int .i64 v2) ∧ wx.cell? ⟨cb, 3, none⟩ = some (.string t3) ∧ wx.cell? ⟨cb, 4, none⟩ = some (.string ⟨#[]⟩))) (by kernel_rfl) ?_ (fun hHeld => ?_)
                        · exact ⟨n0, n1, n2, n3, n4⟩
                        clear hd R3 C3 B3
                        generalize w5.drew = wd at *
                        refine tkH 0 rfl ?_
                        refine tkH 1 rfl ?_
                        refine tkH 2 rfl ?_
                        refine wpAnyH_take (i := 3) (oi := _) (v := undef) rfl (by kernel_rfl) (by kernel_rfl) (by kernel_rfl) (fun _ _ _ h => h) (Or.inr ⟨by rfl, rfl⟩) (by assumption) ?_
                        (try simp only [Act.put, List.getElem_toArray, List.getElem_cons_succ, List.getElem_cons_zero, List.setIfInBounds_toArray, List.set_cons_zero, List.set_cons_succ])
                        refine tkH 4 rfl ?_
                        refine tkH 5 rfl ?_
                        refine wpAnyH_take (i := 6) (oi := _) (v := undef) rfl (by kernel_rfl) (by kernel_rfl) (by kernel_rfl) (fun _ _ _ h => h) (Or.inr ⟨by rfl, rfl⟩) (by assumption) ?_
                        (try simp only [Act.put, List.getElem_toArray, List.getElem_cons_succ, List.getElem_cons_zero, List.setIfInBounds_toArray, List.set_cons_zero, List.set_cons_succ])
                        refine wpAnyH_take (i := 7) (oi := _) (v := undef) rfl (by kernel_rfl) (by kernel_rfl) (by kernel_rfl) (fun _ _ _ h => h) (Or.inr ⟨by rfl, rfl⟩) (by assumption) ?_
                        (try simp only [Act.put, List.getElem_toArray, List.getElem_cons_succ, List.getElem_cons_zero, List.setIfInBounds_toArray, List.set_cons_zero, List.set_cons_succ])
                        refine tkH 8 rfl ?_
                        have HY := hide (c5_set (unhide RD) (.int .i64 3) (.int .i64 v1) (.int .i64 v2) (.string t3) (.string ⟨#[]⟩))
                        have HT := hide (c5_touch w.heap.size wd (.int .i64 3) (.int .i64 v1) (.int .i64 v2) (.string t3) (.string ⟨#[]⟩))
                        have hCT := (unhide CD).kept (unhide HT) (fun e => by omega)
                        obtain ⟨⟨x0, x1, x2, x3, x4⟩, g0, g1, g2, g3, g4⟩ := Blk.c5x (unhide RD)
                        refine wpAnyH_ready (rs := [9]) (by kernel_rfl) (by simp) ?_
                        refine AllReadyH.cons (o := _) rfl (fun K hK => ?_) AllReadyH.nil
                        go_simp
                        refine hK.out _ _ ?_ (fun hHeld => ?_)
                        · obtain ⟨⟨n0, n1, n2, n3, n4⟩, _⟩ := Blk.c5x hCT
                          exact ⟨n0, n1, n2, n3, n4⟩
                        clear hK K hCT
                        (try simp only [Act.put, List.getElem_toArray, List.getElem_cons_succ, List.getElem_cons_zero, List.setIfInBounds_toArray, List.set_cons_zero, List.set_cons_succ])
                        refine tkH 10 rfl ?_
                        refine tkH 11 rfl ?_
                        refine tkH 12 rfl ?_
                        refine wpAnyH_done (by kernel_rfl) ?_ _
                        clear x0 x1 x2 x3 x4 g0 g1 g2 g3 g4 hHeld
                        go_wp2_with fail
                        obtain ⟨⟨z0, z1, z2, z3, z4⟩, _⟩ := Blk.c5x (unhide HY)
                        refine bodyPost_ret (v := .tuple #[.agg #[.int .i64 3, .int .i64 v1, .int .i64 v2, .string t3, .string ⟨#[]⟩], .string ⟨#[100, 111]⟩, .string ⟨#[]⟩, .bool false]) (by simp [results, Tryd.results8, go_sem, z0, z1, z2, z3, z4]) rfl ?_
                        refine l17E.tell (unhide E) ⟨rfl, (unhide HK).trans ((unhide HT).below (unhide HK).size (fun q hq e => by omega))⟩
                      | true =>
                        cases y2 with
                        | false =>
                          replace E := hide (show x = ((3, v1, v2, t3, ⟨#[]⟩), ⟨#[100, 111]⟩, ⟨#[]⟩, false) from (unhide E).trans (by simp))
                          have hd : Below w5.heap.size w5 w5.drew := below_drewN (Below.refl w5.heap.size w5) 1
                          have RD := hide ((unhide R3).below hd)
                          have CD := hide ((unhide C3).below hd)
                          have HK := hide ((unhide B3).trans (hd.mono (unhide B3).size))
                          obtain ⟨⟨n0, n1, n2, n3, n4⟩, _⟩ := Blk.c5x (unhide CD)
                          refine wp_region_held_drew (S := (fun wx => wx.cell? ⟨cb, 0, none⟩ = some (.int .i64 3) ∧ wx.cell? ⟨cb, 1, none⟩ = some (.int .i64 v1) ∧ wx.cell? ⟨cb, 2, none⟩ = some (.int .i64 v2) ∧ wx.cell? ⟨cb, 3, none⟩ = some (.string t3) ∧ wx.cell? ⟨cb, 4, none⟩ = some (.string ⟨#[]⟩))) (by kernel_rfl) ?_ (fun hHeld => ?_)
                          · exact ⟨n0, n1, n2, n3, n4⟩
                          clear hd R3 C3 B3
                          generalize w5.drew = wd at *
                          refine tkH 0 rfl ?_
                          refine tkH 1 rfl ?_
                          refine tkH 2 rfl ?_
                          refine tkH 3 rfl ?_
                          refine tkH 4 rfl ?_
                          refine tkH 5 rfl ?_
                          refine wpAnyH_take (i := 6) (oi := _) (v := undef) rfl (by kernel_rfl) (by kernel_rfl) (by kernel_rfl) (fun _ _ _ h => h) (Or.inr ⟨by rfl, rfl⟩) (by assumption) ?_
                          (try simp only [Act.put, List.getElem_toArray, List.getElem_cons_succ, List.getElem_cons_zero, List.setIfInBounds_toArray, List.set_cons_zero, List.set_cons_succ])
                          refine wpAnyH_take (i := 7) (oi := _) (v := undef) rfl (by kernel_rfl) (by kernel_rfl) (by kernel_rfl) (fun _ _ _ h => h) (Or.inr ⟨by rfl, rfl⟩) (by assumption) ?_
                          (try simp only [Act.put, List.getElem_toArray, List.getElem_cons_succ, List.getElem_cons_zero, List.setIfInBounds_toArray, List.set_cons_zero, List.set_cons_succ])
                          refine tkH 8 rfl ?_
                          have HY := hide (c5_set (unhide RD) (.int .i64 3) (.int .i64 v1) (.int .i64 v2) (.string t3) (.string ⟨#[]⟩))
                          have HT := hide (c5_touch w.heap.size wd (.int .i64 3) (.int .i64 v1) (.int .i64 v2) (.string t3) (.string ⟨#[]⟩))
                          have hCT := (unhide CD).kept (unhide HT) (fun e => by omega)
                          obtain ⟨⟨x0, x1, x2, x3, x4⟩, g0, g1, g2, g3, g4⟩ := Blk.c5x (unhide RD)
                          refine wpAnyH_ready (rs := [9]) (by kernel_rfl) (by simp) ?_
                          refine AllReadyH.cons (o := _) rfl (fun K hK => ?_) AllReadyH.nil
                          go_simp
                          refine hK.out _ _ ?_ (fun hHeld => ?_)
                          · obtain ⟨⟨n0, n1, n2, n3, n4⟩, _⟩ := Blk.c5x hCT
                            exact ⟨n0, n1, n2, n3, n4⟩
                          clear hK K hCT
                          (try simp only [Act.put, List.getElem_toArray, List.getElem_cons_succ, List.getElem_cons_zero, List.setIfInBounds_toArray, List.set_cons_zero, List.set_cons_succ])
                          refine tkH 10 rfl ?_
                          refine tkH 11 rfl ?_
                          refine tkH 12 rfl ?_
                          refine wpAnyH_done (by kernel_rfl) ?_ _
                          clear x0 x1 x2 x3 x4 g0 g1 g2 g3 g4 hHeld
                          go_wp2_with fail
                          obtain ⟨⟨z0, z1, z2, z3, z4⟩, _⟩ := Blk.c5x (unhide HY)
                          refine bodyPost_ret (v := .tuple #[.agg #[.int .i64 3, .int .i64 v1, .int .i64 v2, .string t3, .string ⟨#[]⟩], .string ⟨#[100, 111]⟩, .string ⟨#[]⟩, .bool false]) (by simp [results, Tryd.results8, go_sem, z0, z1, z2, z3, z4]) rfl ?_
                          refine l17E.tell (unhide E) ⟨rfl, (unhide HK).trans ((unhide HT).below (unhide HK).size (fun q hq e => by omega))⟩
                        | true =>
                          replace E := hide (show x = ((3, v1, v2, t3, ⟨#[]⟩), ⟨#[100, 111]⟩, ⟨#[]⟩, ok) from (unhide E).trans (by simp))
                          have hd : Below w5.heap.size w5 w5.drew := below_drewN (Below.refl w5.heap.size w5) 1
                          have RD := hide ((unhide R3).below hd)
                          have CD := hide ((unhide C3).below hd)
                          have HK := hide ((unhide B3).trans (hd.mono (unhide B3).size))
                          obtain ⟨⟨n0, n1, n2, n3, n4⟩, _⟩ := Blk.c5x (unhide CD)
                          refine wp_region_held_drew (S := (fun wx => wx.cell? ⟨cb, 0, none⟩ = some (.int .i64 3) ∧ wx.cell? ⟨cb, 1, none⟩ = some (.int .i64 v1) ∧ wx.cell? ⟨cb, 2, none⟩ = some (.int .i64 v2) ∧ wx.cell? ⟨cb, 3, none⟩ = some (.string t3) ∧ wx.cell? ⟨cb, 4, none⟩ = some (.string ⟨#[]⟩))) (by kernel_rfl) ?_ (fun hHeld => ?_)
                          · exact ⟨n0, n1, n2, n3, n4⟩
                          clear hd R3 C3 B3
                          generalize w5.drew = wd at *
                          refine tkH 0 rfl ?_
                          refine tkH 1 rfl ?_
                          refine tkH 2 rfl ?_
                          refine tkH 3 rfl ?_
                          refine tkH 4 rfl ?_
                          refine tkH 5 rfl ?_
                          refine tkH 6 rfl ?_
                          refine wpAnyH_ready (rs := [7]) (by kernel_rfl) (by simp) ?_
                          refine AllReadyH.cons (o := _) rfl (fun K hK => ?_) AllReadyH.nil
                          go_simp
                          refine (unhide HOK _).mono ?_
                          rintro e w7 ⟨rfl, hb⟩
                          have CD := hide ((unhide CD).below hb)
                          have RD := hide ((unhide RD).below hb)
                          have HK := hide ((unhide HK).trans (hb.mono (unhide HK).size))
                          clear hb
                          go_wp2_with fail
                          refine hK.out _ _ ?_ (fun hHeld => ?_)
                          · obtain ⟨⟨n0, n1, n2, n3, n4⟩, _⟩ := Blk.c5x (unhide CD)
                            exact ⟨n0, n1, n2, n3, n4⟩
                          clear hK K n0 n1 n2 n3 n4
                          (try simp only [Act.put, List.getElem_toArray, List.getElem_cons_succ, List.getElem_cons_zero, List.setIfInBounds_toArray, List.set_cons_zero, List.set_cons_succ])
                          refine tkH 8 rfl ?_
                          have HY := hide (c5_set (unhide RD) (.int .i64 3) (.int .i64 v1) (.int .i64 v2) (.string t3) (.string ⟨#[]⟩))
                          have HT := hide (c5_touch w.heap.size w7 (.int .i64 3) (.int .i64 v1) (.int .i64 v2) (.string t3) (.string ⟨#[]⟩))
                          have hCT := (unhide CD).kept (unhide HT) (fun e => by omega)
                          obtain ⟨⟨x0, x1, x2, x3, x4⟩, g0, g1, g2, g3, g4⟩ := Blk.c5x (unhide RD)
                          refine wpAnyH_ready (rs := [9]) (by kernel_rfl) (by simp) ?_
                          refine AllReadyH.cons (o := _) rfl (fun K hK => ?_) AllReadyH.nil
                          go_simp
                          refine hK.out _ _ ?_ (fun hHeld => ?_)
                          · obtain ⟨⟨n0, n1, n2, n3, n4⟩, _⟩ := Blk.c5x hCT
                            exact ⟨n0, n1, n2, n3, n4⟩
                          clear hK K hCT
                          (try simp only [Act.put, List.getElem_toArray, List.getElem_cons_succ, List.getElem_cons_zero, List.setIfInBounds_toArray, List.set_cons_zero, List.set_cons_succ])
                          refine tkH 10 rfl ?_
                          refine tkH 11 rfl ?_
                          refine tkH 12 rfl ?_
                          refine wpAnyH_done (by kernel_rfl) ?_ _
                          clear x0 x1 x2 x3 x4 g0 g1 g2 g3 g4 hHeld
                          go_wp2_with fail
                          obtain ⟨⟨z0, z1, z2, z3, z4⟩, _⟩ := Blk.c5x (unhide HY)
                          refine bodyPost_ret (v := .tuple #[.agg #[.int .i64 3, .int .i64 v1, .int .i64 v2, .string t3, .string ⟨#[]⟩], .string ⟨#[100, 111]⟩, .string ⟨#[]⟩, .bool ok]) (by simp [results, Tryd.results8, go_sem, z0, z1, z2, z3, z4]) rfl ?_
                          refine l17E.tell (unhide E) ⟨rfl, (unhide HK).trans ((unhide HT).below (unhide HK).size (fun q hq e => by omega))⟩
                    · have hql : ((l.length : Int) != 4) = true := by rw [bne_iff_ne]; omega
                      have E := hide ((unhide E5).trans (if_pos (by omega)))
                      clear E5
                      have HY := hide (c5_set (unhide R3) (.int .i64 0) (.int .i64 0) (.int .i64 0) (.string ⟨#[]⟩) (.string ⟨#[]⟩))
                      have HT := hide (c5_touch w.heap.size w3 (.int .i64 0) (.int .i64 0) (.int .i64 0) (.string ⟨#[]⟩) (.string ⟨#[]⟩))
                      obtain ⟨⟨x0, x1, x2, x3, x4⟩, g0, g1, g2, g3, g4⟩ := Blk.c5x (unhide R3)
                      obtain ⟨⟨n0, n1, n2, n3, n4⟩, _⟩ := Blk.c5x (unhide N3)
                      clear R3 N3 W3 C3
                      go_wp2_with fail
                      obtain ⟨⟨z0, z1, z2, z3, z4⟩, _⟩ := Blk.c5x (unhide HY)
                      refine bodyPost_ret (v := .tuple #[.agg #[.int .i64 0, .int .i64 0, .int .i64 0, .string ⟨#[]⟩, .string ⟨#[]⟩], .string ⟨#[]⟩, .string ⟨#[]⟩, .bool false]) (by simp [results, Tryd.results8, go_sem, z0, z1, z2, z3, z4]) rfl ?_
                      refine l17E.tell (unhide E) ⟨rfl, (unhide B3).trans ((unhide HT).below (unhide B3).size (fun q hq e => by omega))⟩
                  · have hq3 : (k != 3) = true := by simp [hk3]
                    have E5 := unhide E4
                    rw [if_pos (show k ≠ 3 from hk3), if_pos (show k ≠ 3 from hk3)] at E5
                    replace E5 := hide E5
                    clear E4
                    go_wp2_with fail
                    (try rw [hq3])
                    refine (bit1 _).mono ?_
                    rintro e w9 ⟨rfl, hw9⟩
                    subst w9
                    by_cases hln : l.length = 5
                    · have hql : ((l.length : Int) != 5) = false := by simp [hln]
                      have E := hide ((unhide E5).trans (if_neg (by omega)))
                      clear E5
                      have hZZ := unhide HSZ
                      have HNB := hide (l00Number_any (l.getD 2 ByteArray.empty) w3 (hZZ 2))
                      have HOK := hide (fun (v2 : Int) wx => specCommandOK_any k v1 v2 (l.getD 3 ByteArray.empty) (l.getD 4 ByteArray.empty) wx (by have := hZZ 3; unfold maxLen; omega) (by have := hZZ 4; unfold maxLen; omega))
                      have c2 := (unhide W3).lc 2 (by omega)
                      have HC3 := hide (fun wx (h : Wds wx b off l) => h.lc 3 (by omega))
                      have HC4 := hide (fun wx (h : Wds wx b off l) => h.lc 4 (by omega))
                      clear hZZ HSZ N3
                      generalize l.getD 2 ByteArray.empty = t2 at *
                      generalize l.getD 3 ByteArray.empty = t3 at *
                      generalize l.getD 4 ByteArray.empty = t4 at *
                      generalize numT t2 = n2 at *
                      obtain ⟨v2, y2⟩ := n2
                      dsimp only at HNB E
                      replace HOK := hide (unhide HOK v2)
                      generalize cmdOK k v1 v2 t3 t4 = ok at *
                      have hl2' : (2 : Int) < (l.length : Int) := by omega
                      have hl3' : (3 : Int) < (l.length : Int) := by omega
                      have hl4' : (4 : Int) < (l.length : Int) := by omega
                      go_wp2_with fail
                      refine (unhide HNB).mono ?_
                      rintro e w9 ⟨rfl, hw9⟩
                      subst w9
                      clear HNB
                      go_upto_region 22 with fail
                      clear c2
                      have HT22 := hide ((Touch.refl (fun q => q = cb) w3).setCell ⟨cb, 2, none⟩ (.int .i64 v2) (fun _ => rfl))
                      have hcs := (unhide C3).1
                      have C4 := hide ((unhide C3).set 2 (.int .i64 v2) (by simp))
                      have R4 := hide ((unhide R3).kept (unhide HT22) (fun e => by omega))
                      have W4 := hide ((unhide W3).one (unhide HT22) (by have := (unhide HBW); omega) (by omega))
                      have B4 := hide ((unhide B3).trans ((unhide HT22).below (unhide B3).size (fun q hq e => by omega)))
                      obtain ⟨⟨x0, x1, x2, x3, x4⟩, g0, g1, g2, g3, g4⟩ := Blk.c5x (unhide C3)
                      go_upto_region 23 with fail
                      clear x0 x1 x2 x3 x4 g0 g1 g2 g3 g4 HT22 hcs
                      clear C3 R3 W3 B3
                      generalize w3.setCell ⟨cb, 2, none⟩ (.int .i64 v2) = w4 at *
                      have C3 := C4
                      have R3 := R4
                      have W3 := W4
                      have B3 := B4
                      clear C4 R4 W4 B4
                      have c3 := unhide HC3 _ (unhide W3)
                      have HT23 := hide ((Touch.refl (fun q => q = cb) w4).setCell ⟨cb, 3, none⟩ (.string t3) (fun _ => rfl))
                      have hcs := (unhide C3).1
                      have C4 := hide ((unhide C3).set 3 (.string t3) (by simp))
                      have R4 := hide ((unhide R3).kept (unhide HT23) (fun e => by omega))
                      have W4 := hide ((unhide W3).one (unhide HT23) (by have := (unhide HBW); omega) (by omega))
                      have B4 := hide ((unhide B3).trans ((unhide HT23).below (unhide B3).size (fun q hq e => by omega)))
                      obtain ⟨⟨x0, x1, x2, x3, x4⟩, g0, g1, g2, g3, g4⟩ := Blk.c5x (unhide C3)
                      go_upto_region 24 with fail
                      clear x0 x1 x2 x3 x4 g0 g1 g2 g3 g4 HT23 hcs
                      clear C3 R3 W3 B3
                      generalize w4.setCell ⟨cb, 3, none⟩ (.string t3) = w5 at *
                      have C3 := C4
                      have R3 := R4
                      have W3 := W4
                      have B3 := B4
                      clear C4 R4 W4 B4
                      clear c3 HC3
                      have c4 := unhide HC4 _ (unhide W3)
                      go_upto_region 25 with fail
                      have HT25 := hide ((Touch.refl (fun q => q = cb) w5).setCell ⟨cb, 4, none⟩ (.string t4) (fun _ => rfl))
                      have hcs := (unhide C3).1
                      have C4 := hide ((unhide C3).set 4 (.string t4) (by simp))
                      have R4 := hide ((unhide R3).kept (unhide HT25) (fun e => by omega))
                      have W4 := hide ((unhide W3).one (unhide HT25) (by have := (unhide HBW); omega) (by omega))
                      have B4 := hide ((unhide B3).trans ((unhide HT25).below (unhide B3).size (fun q hq e => by omega)))
                      obtain ⟨⟨x0, x1, x2, x3, x4⟩, g0, g1, g2, g3, g4⟩ := Blk.c5x (unhide C3)
                      go_upto_region 26 with fail
                      clear x0 x1 x2 x3 x4 g0 g1 g2 g3 g4 HT25 hcs
                      clear C3 R3 W3 B3
                      generalize w5.setCell ⟨cb, 4, none⟩ (.string t4) = w6 at *
                      have C3 := C4
                      have R3 := R4
                      have W3 := W4
                      have B3 := B4
                      clear C4 R4 W4 B4
                      clear c4 HC4
                      cases y1 with
                      | false =>
                        replace E := hide (show x = ((k, v1, v2, t3, t4), ⟨#[100, 111]⟩, ⟨#[]⟩, false) from (unhide E).trans (by simp))
                        have hd : Below w6.heap.size w6 w6.drew := below_drewN (Below.refl w6.heap.size w6) 1
                        have RD := hide ((unhide R3).below hd)
                        have CD := hide ((unhide C3).below hd)
                        have HK := hide ((unhide B3).trans (hd.mono (unhide B3).size))
                        obtain ⟨⟨n0, n1, n2, n3, n4⟩, _⟩ := Blk.c5x (unhide CD)
                        refine wp_region_held_drew (S := (fun wx => wx.cell? ⟨cb, 0, none⟩ = some (.int .i64 k) ∧ wx.cell? ⟨cb, 1, none⟩ = some (.int .i64 v1) ∧ wx.cell? ⟨cb, 2, none⟩ = some (.int .i64 v2) ∧ wx.cell? ⟨cb, 3, none⟩ = some (.string t3) ∧ wx.cell? ⟨cb, 4, none⟩ = some (.string t4))) (by kernel_rfl) ?_ (fun hHeld => ?_)
                        · exact ⟨n0, n1, n2, n3, n4⟩
                        clear hd R3 C3 B3
                        generalize w6.drew = wd at *
                        refine tkH 0 rfl ?_
                        refine tkH 1 rfl ?_
                        refine tkH 2 rfl ?_
                        refine wpAnyH_take (i := 3) (oi := _) (v := undef) rfl (by kernel_rfl) (by kernel_rfl) (by kernel_rfl) (fun _ _ _ h => h) (Or.inr ⟨by rfl, rfl⟩) (by assumption) ?_
                        (try simp only [Act.put, List.getElem_toArray, List.getElem_cons_succ, List.getElem_cons_zero, List.setIfInBounds_toArray, List.set_cons_zero, List.set_cons_succ])
                        refine tkH 4 rfl ?_
                        refine tkH 5 rfl ?_
                        refine wpAnyH_take (i := 6) (oi := _) (v := undef) rfl (by kernel_rfl) (by kernel_rfl) (by kernel_rfl) (fun _ _ _ h => h) (Or.inr ⟨by rfl, rfl⟩) (by assumption) ?_
                        (try simp only [Act.put, List.getElem_toArray, List.getElem_cons_succ, List.getElem_cons_zero, List.setIfInBounds_toArray, List.set_cons_zero, List.set_cons_succ])
                        refine wpAnyH_take (i := 7) (oi := _) (v := undef) rfl (by kernel_rfl) (by kernel_rfl) (by kernel_rfl) (fun _ _ _ h => h) (Or.inr ⟨by rfl, rfl⟩) (by assumption) ?_
                        (try simp only [Act.put, List.getElem_toArray, List.getElem_cons_succ, List.getElem_cons_zero, List.setIfInBounds_toArray, List.set_cons_zero, List.set_cons_succ])
                        refine tkH 8 rfl ?_
                        have HY := hide (c5_set (unhide RD) (.int .i64 k) (.int .i64 v1) (.int .i64 v2) (.string t3) (.string t4))
                        have HT := hide (c5_touch w.heap.size wd (.int .i64 k) (.int .i64 v1) (.int .i64 v2) (.string t3) (.string t4))
                        have hCT := (unhide CD).kept (unhide HT) (fun e => by omega)
                        obtain ⟨⟨x0, x1, x2, x3, x4⟩, g0, g1, g2, g3, g4⟩ := Blk.c5x (unhide RD)
                        refine wpAnyH_ready (rs := [9]) (by kernel_rfl) (by simp) ?_
                        refine AllReadyH.cons (o := _) rfl (fun K hK => ?_) AllReadyH.nil
                        go_simp
                        refine hK.out _ _ ?_ (fun hHeld => ?_)
                        · obtain ⟨⟨n0, n1, n2, n3, n4⟩, _⟩ := Blk.c5x hCT
                          exact ⟨n0, n1, n2, n3, n4⟩
                        clear hK K hCT
                        (try simp only [Act.put, List.getElem_toArray, List.getElem_cons_succ, List.getElem_cons_zero, List.setIfInBounds_toArray, List.set_cons_zero, List.set_cons_succ])
                        refine tkH 10 rfl ?_
                        refine tkH 11 rfl ?_
                        refine tkH 12 rfl ?_
                        refine wpAnyH_done (by kernel_rfl) ?_ _
                        clear x0 x1 x2 x3 x4 g0 g1 g2 g3 g4 hHeld
                        go_wp2_with fail
                        obtain ⟨⟨z0, z1, z2, z3, z4⟩, _⟩ := Blk.c5x (unhide HY)
                        refine bodyPost_ret (v := .tuple #[.agg #[.int .i64 k, .int .i64 v1, .int .i64 v2, .string t3, .string t4], .string ⟨#[100, 111]⟩, .string ⟨#[]⟩, .bool false]) (by simp [results, Tryd.results8, go_sem, z0, z1, z2, z3, z4]) rfl ?_
                        refine l17E.tell (unhide E) ⟨rfl, (unhide HK).trans ((unhide HT).below (unhide HK).size (fun q hq e => by omega))⟩
                      | true =>
                        cases y2 with
                        | false =>
                          replace E := hide (show x = ((k, v1, v2, t3, t4), ⟨#[100, 111]⟩, ⟨#[]⟩, false) from (unhide E).trans (by simp))
                          have hd : Below w6.heap.size w6 w6.drew := below_drewN (Below.refl w6.heap.size w6) 1
                          have RD := hide ((unhide R3).below hd)
                          have CD := hide ((unhide C3).below hd)
                          have HK := hide ((unhide B3).trans (hd.mono (unhide B3).size))
                          obtain ⟨⟨n0, n1, n2, n3, n4⟩, _⟩ := Blk.c5x (unhide CD)
                          refine wp_region_held_drew (S := (fun wx => wx.cell? ⟨cb, 0, none⟩ = some (.int .i64 k) ∧ wx.cell? ⟨cb, 1, none⟩ = some (.int .i64 v1) ∧ wx.cell? ⟨cb, 2, none⟩ = some (.int .i64 v2) ∧ wx.cell? ⟨cb, 3, none⟩ = some (.string t3) ∧ wx.cell? ⟨cb, 4, none⟩ = some (.string t4))) (by kernel_rfl) ?_ (fun hHeld => ?_)
                          · exact ⟨n0, n1, n2, n3, n4⟩
                          clear hd R3 C3 B3
                          generalize w6.drew = wd at *
                          refine tkH 0 rfl ?_
                          refine tkH 1 rfl ?_
                          refine tkH 2 rfl ?_
                          refine tkH 3 rfl ?_
                          refine tkH 4 rfl ?_
                          refine tkH 5 rfl ?_
                          refine wpAnyH_take (i := 6) (oi := _) (v := undef) rfl (by kernel_rfl) (by kernel_rfl) (by kernel_rfl) (fun _ _ _ h => h) (Or.inr ⟨by rfl, rfl⟩) (by assumption) ?_
                          (try simp only [Act.put, List.getElem_toArray, List.getElem_cons_succ, List.getElem_cons_zero, List.setIfInBounds_toArray, List.set_cons_zero, List.set_cons_succ])
                          refine wpAnyH_take (i := 7) (oi := _) (v := undef) rfl (by kernel_rfl) (by kernel_rfl) (by kernel_rfl) (fun _ _ _ h => h) (Or.inr ⟨by rfl, rfl⟩) (by assumption) ?_
                          (try simp only [Act.put, List.getElem_toArray, List.getElem_cons_succ, List.getElem_cons_zero, List.setIfInBounds_toArray, List.set_cons_zero, List.set_cons_succ])
                          refine tkH 8 rfl ?_
                          have HY := hide (c5_set (unhide RD) (.int .i64 k) (.int .i64 v1) (.int .i64 v2) (.string t3) (.string t4))
                          have HT := hide (c5_touch w.heap.size wd (.int .i64 k) (.int .i64 v1) (.int .i64 v2) (.string t3) (.string t4))
                          have hCT := (unhide CD).kept (unhide HT) (fun e => by omega)
                          obtain ⟨⟨x0, x1, x2, x3, x4⟩, g0, g1, g2, g3, g4⟩ := Blk.c5x (unhide RD)
                          refine wpAnyH_ready (rs := [9]) (by kernel_rfl) (by simp) ?_
                          refine AllReadyH.cons (o := _) rfl (fun K hK => ?_) AllReadyH.nil
                          go_simp
                          refine hK.out _ _ ?_ (fun hHeld => ?_)
                          · obtain ⟨⟨n0, n1, n2, n3, n4⟩, _⟩ := Blk.c5x hCT
                            exact ⟨n0, n1, n2, n3, n4⟩
                          clear hK K hCT
                          (try simp only [Act.put, List.getElem_toArray, List.getElem_cons_succ, List.getElem_cons_zero, List.setIfInBounds_toArray, List.set_cons_zero, List.set_cons_succ])
                          refine tkH 10 rfl ?_
                          refine tkH 11 rfl ?_
                          refine tkH 12 rfl ?_
                          refine wpAnyH_done (by kernel_rfl) ?_ _
                          clear x0 x1 x2 x3 x4 g0 g1 g2 g3 g4 hHeld
                          go_wp2_with fail
                          obtain ⟨⟨z0, z1, z2, z3, z4⟩, _⟩ := Blk.c5x (unhide HY)
                          refine bodyPost_ret (v := .tuple #[.agg #[.int .i64 k, .int .i64 v1, .int .i64 v2, .string t3, .string t4], .string ⟨#[100, 111]⟩, .string ⟨#[]⟩, .bool false]) (by simp [results, Tryd.results8, go_sem, z0, z1, z2, z3, z4]) rfl ?_
                          refine l17E.tell (unhide E) ⟨rfl, (unhide HK).trans ((unhide HT).below (unhide HK).size (fun q hq e => by omega))⟩
                        | true =>
                          replace E := hide (show x = ((k, v1, v2, t3, t4), ⟨#[100, 111]⟩, ⟨#[]⟩, ok) from (unhide E).trans (by simp))
                          have hd : Below w6.heap.size w6 w6.drew := below_drewN (Below.refl w6.heap.size w6) 1
                          have RD := hide ((unhide R3).below hd)
                          have CD := hide ((unhide C3).below hd)
                          have HK := hide ((unhide B3).trans (hd.mono (unhide B3).size))
                          obtain ⟨⟨n0, n1, n2, n3, n4⟩, _⟩ := Blk.c5x (unhide CD)
                          refine wp_region_held_drew (S := (fun wx => wx.cell? ⟨cb, 0, none⟩ = some (.int .i64 k) ∧ wx.cell? ⟨cb, 1, none⟩ = some (.int .i64 v1) ∧ wx.cell? ⟨cb, 2, none⟩ = some (.int .i64 v2) ∧ wx.cell? ⟨cb, 3, none⟩ = some (.string t3) ∧ wx.cell? ⟨cb, 4, none⟩ = some (.string t4))) (by kernel_rfl) ?_ (fun hHeld => ?_)
                          · exact ⟨n0, n1, n2, n3, n4⟩
                          clear hd R3 C3 B3
                          generalize w6.drew = wd at *
                          refine tkH 0 rfl ?_
                          refine tkH 1 rfl ?_
                          refine tkH 2 rfl ?_
                          refine tkH 3 rfl ?_
                          refine tkH 4 rfl ?_
                          refine tkH 5 rfl ?_
                          refine tkH 6 rfl ?_
                          refine wpAnyH_ready (rs := [7]) (by kernel_rfl) (by simp) ?_
                          refine AllReadyH.cons (o := _) rfl (fun K hK => ?_) AllReadyH.nil
                          go_simp
                          refine (unhide HOK _).mono ?_
                          rintro e w7 ⟨rfl, hb⟩
                          have CD := hide ((unhide CD).below hb)
                          have RD := hide ((unhide RD).below hb)
                          have HK := hide ((unhide HK).trans (hb.mono (unhide HK).size))
                          clear hb
                          go_wp2_with fail
                          refine hK.out _ _ ?_ (fun hHeld => ?_)
                          · obtain ⟨⟨n0, n1, n2, n3, n4⟩, _⟩ := Blk.c5x (unhide CD)
                            exact ⟨n0, n1, n2, n3, n4⟩
                          clear hK K n0 n1 n2 n3 n4
                          (try simp only [Act.put, List.getElem_toArray, List.getElem_cons_succ, List.getElem_cons_zero, List.setIfInBounds_toArray, List.set_cons_zero, List.set_cons_succ])
                          refine tkH 8 rfl ?_
                          have HY := hide (c5_set (unhide RD) (.int .i64 k) (.int .i64 v1) (.int .i64 v2) (.string t3) (.string t4))
                          have HT := hide (c5_touch w.heap.size w7 (.int .i64 k) (.int .i64 v1) (.int .i64 v2) (.string t3) (.string t4))
                          have hCT := (unhide CD).kept (unhide HT) (fun e => by omega)
                          obtain ⟨⟨x0, x1, x2, x3, x4⟩, g0, g1, g2, g3, g4⟩ := Blk.c5x (unhide RD)
                          refine wpAnyH_ready (rs := [9]) (by kernel_rfl) (by simp) ?_
                          refine AllReadyH.cons (o := _) rfl (fun K hK => ?_) AllReadyH.nil
                          go_simp
                          refine hK.out _ _ ?_ (fun hHeld => ?_)
                          · obtain ⟨⟨n0, n1, n2, n3, n4⟩, _⟩ := Blk.c5x hCT
                            exact ⟨n0, n1, n2, n3, n4⟩
                          clear hK K hCT
                          (try simp only [Act.put, List.getElem_toArray, List.getElem_cons_succ, List.getElem_cons_zero, List.setIfInBounds_toArray, List.set_cons_zero, List.set_cons_succ])
                          refine tkH 10 rfl ?_
                          refine tkH 11 rfl ?_
                          refine tkH 12 rfl ?_
                          refine wpAnyH_done (by kernel_rfl) ?_ _
                          clear x0 x1 x2 x3 x4 g0 g1 g2 g3 g4 hHeld
                          go_wp2_with fail
                          obtain ⟨⟨z0, z1, z2, z3, z4⟩, _⟩ := Blk.c5x (unhide HY)
                          refine bodyPost_ret (v := .tuple #[.agg #[.int .i64 k, .int .i64 v1, .int .i64 v2, .string t3, .string t4], .string ⟨#[100, 111]⟩, .string ⟨#[]⟩, .bool ok]) (by simp [results, Tryd.results8, go_sem, z0, z1, z2, z3, z4]) rfl ?_
                          refine l17E.tell (unhide E) ⟨rfl, (unhide HK).trans ((unhide HT).below (unhide HK).size (fun q hq e => by omega))⟩
                    · have hql : ((l.length : Int) != 5) = true := by rw [bne_iff_ne]; omega
                      have E := hide ((unhide E5).trans (if_pos (by omega)))
                      clear E5
                      have HY := hide (c5_set (unhide R3) (.int .i64 0) (.int .i64 0) (.int .i64 0) (.string ⟨#[]⟩) (.string ⟨#[]⟩))
                      have HT := hide (c5_touch w.heap.size w3 (.int .i64 0) (.int .i64 0) (.int .i64 0) (.string ⟨#[]⟩) (.string ⟨#[]⟩))
                      obtain ⟨⟨x0, x1, x2, x3, x4⟩, g0, g1, g2, g3, g4⟩ := Blk.c5x (unhide R3)
                      obtain ⟨⟨n0, n1, n2, n3, n4⟩, _⟩ := Blk.c5x (unhide N3)
                      clear R3 N3 W3 C3
                      go_wp2_with fail
                      obtain ⟨⟨z0, z1, z2, z3, z4⟩, _⟩ := Blk.c5x (unhide HY)
                      refine bodyPost_ret (v := .tuple #[.agg #[.int .i64 0, .int .i64 0, .int .i64 0, .string ⟨#[]⟩, .string ⟨#[]⟩], .string ⟨#[]⟩, .string ⟨#[]⟩, .bool false]) (by simp [results, Tryd.results8, go_sem, z0, z1, z2, z3, z4]) rfl ?_
                      refine l17E.tell (unhide E) ⟨rfl, (unhide B3).trans ((unhide HT).below (unhide B3).size (fun q hq e => by omega))⟩
end Go.Proofs.YtihhbngpajephaaDoor.Sha
