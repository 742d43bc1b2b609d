/- A console's line, read by the program. (Written by py/cno.py.) -/
import Derived.Test.YtihhbngpajephaaDoorCnF
import Derived.Test.YtihhbngpajephaaDoorCnK
import Derived.Test.YtihhbngpajephaaDoorCnL
import Derived.Test.YtihhbngpajephaaDoorCnM
import Derived.Test.YtihhbngpajephaaDoorCnW
namespace Go.Proofs.YtihhbngpajephaaDoor.Sha
open Go.ChangeShapes Go.WideShapes Go.ChangeAt Go.RowKit
set_option linter.unusedVariables false
set_option linter.unusedSimpArgs false

theorem ext_size (t : ByteArray) (i j : Nat) : (t.extract i j).size ≤ t.size := by simp only [ByteArray.size_extract]; omega
theorem wst_sizes (t : ByteArray) : ∀ i, ∀ x ∈ (wst t i).1, x.size ≤ t.size
  | 0 => fun x hx => by simp [wst] at hx
  | i + 1 => fun x hx => by
    have ih := wst_sizes t i
    cases hs : sepB t i with
    | false => rw [wst_no hs] at hx; exact ih x hx
    | true =>
      by_cases h2 : (wst t i).2 < i
      · rw [wst_push hs h2] at hx
        rcases List.mem_append.1 hx with h | h
        · exact ih x h
        · rw [List.mem_singleton.1 h]; exact ext_size _ _ _
      · rw [wst_skip hs h2] at hx; exact ih x hx
theorem word_size (t : ByteArray) (i : Nat) : ((wordsL t).getD i ByteArray.empty).size ≤ t.size := by
  rw [List.getD_eq_getElem?_getD]
  cases h : (wordsL t)[i]? with
  | none => exact Nat.zero_le _
  | some x => exact wst_sizes t _ x (List.mem_of_getElem? h)
/-- What a line's words ask for. -/
def reqO (l : List ByteArray) : Option Rq :=
  if silB l = true then none
  else if rdrF (l.getD 0 ByteArray.empty).data.toList = ((21 : Nat) : Int) then chgO 1 l
  else if rdrF (l.getD 0 ByteArray.empty).data.toList = ((22 : Nat) : Int) then chgO 2 l
  else if rdrF (l.getD 0 ByteArray.empty).data.toList = ((23 : Nat) : Int) then drpO l
  else if rdrF (l.getD 0 ByteArray.empty).data.toList = ((24 : Nat) : Int) then sesO 4 l
  else if rdrF (l.getD 0 ByteArray.empty).data.toList = ((25 : Nat) : Int) then sesO 5 l
  else if rdrF (l.getD 0 ByteArray.empty).data.toList = ((26 : Nat) : Int) then alO l
  else if rdrF (l.getD 0 ByteArray.empty).data.toList = ((27 : Nat) : Int) then wwO l
  else none
theorem reqO_at {l : List ByteArray} (hs : silB l = false) (f : Nat) (hf : rdrF (l.getD 0 ByteArray.empty).data.toList = (f : Int)) :
    reqO l = if (f : Int) = ((21 : Nat) : Int) then chgO 1 l else if (f : Int) = ((22 : Nat) : Int) then chgO 2 l else if (f : Int) = ((23 : Nat) : Int) then drpO l else if (f : Int) = ((24 : Nat) : Int) then sesO 4 l else if (f : Int) = ((25 : Nat) : Int) then sesO 5 l else if (f : Int) = ((26 : Nat) : Int) then alO l else if (f : Int) = ((27 : Nat) : Int) then wwO l else none := by
  unfold reqO
  rw [if_neg (by rw [hs]; decide), hf]
theorem silB_len {l : List ByteArray} (h : silB l = false) : 0 < l.length := by
  rcases Nat.eq_zero_or_pos l.length with e | e
  · unfold silB at h; rw [if_pos e] at h; cases h
  · exact e
theorem req_any (b off cap : Nat) (l : List ByteArray) (w : World) (hS : Strs w (.slice (some ⟨b, off, none⟩) l.length cap) l) (hW : Wds w b off l) (hC : Cns w) :
    Calls Tryd.prog 12 #[.slice (some ⟨b, off, none⟩) l.length cap] w fun e w' => RqA (reqO l) w e w' := by
  refine request_any (some ⟨b, off, none⟩) cap l (reqO l) w hS (by have := hW.lz 0; unfold maxLen; omega) (fun h => if_pos h) ?_ ?_
  · intro h
    cases hs : silB l with
    | true => exact if_pos hs
    | false =>
      unfold reqO
      rw [if_neg (by rw [hs]; decide), h]
      rfl
  · intro hs f hf wx hx
    have hl := silB_len hs
    have e := reqO_at hs f hf
    have W := hW.below hx
    have C := hC.below hx
    rcases rdrF_in hf with rfl | rfl | rfl | rfl | rfl | rfl | rfl
    · rw [e]; exact put_any b off cap l wx hl W C
    · rw [e]; exact add_any b off cap l wx hl W C
    · rw [e]; exact drp_any b off cap l wx hl W C
    · rw [e]; exact open_any b off cap l wx hl W C
    · rw [e]; exact shut_any b off cap l wx hl W C
    · rw [e]; exact alone_any b off cap l wx (by have := W.lm; unfold maxLen at this; omega) hl W.lb (by have := W.lc 0 hl; rwa [Nat.add_zero] at this)
    · rw [e]; exact ww_any b off cap l wx hl W
def rqC (r : Rq) : List Value := [.string r.what, .string r.word, .int .i64 r.kd, .int .i64 r.ss, .int .i64 r.sq, .string r.ky, .string r.vl]
def rq0 : Rq := ⟨⟨#[]⟩, ⟨#[]⟩, 0, 0, 0, ⟨#[]⟩, ⟨#[]⟩⟩
/-- What is told of a request that may have failed: its fields, a code. -/
def rqF (o : Option Rq) : Rq := o.getD rq0
def rqK (o : Option Rq) : Int := match o with | some _ => 0 | none => 3
set_option maxRecDepth 100000 in
set_option maxHeartbeats 4000000 in
theorem act_any (lb rb : Nat) (s : ByteArray) (w : World) (hl : w.cell? ⟨lb, 0, none⟩ = some (.string s)) (hR : Blk w rb [.string ⟨#[]⟩, .string ⟨#[]⟩, .int .i64 0, .int .i64 0, .int .i64 0, .string ⟨#[]⟩, .string ⟨#[]⟩]) (hC : Cns w) (hs : s.size ≤ 65536) :
    Calls Tryd.prog 10 #[.pointer (some ⟨lb, 0, none⟩), .pointer (some ⟨rb, 0, none⟩)] w fun e w' => ∃ w1, Below w.heap.size w w1 ∧ Blk w' rb (rqC (rqF (reqO (wordsL s)))) ∧ Touch (fun q => q = rb) w1 w' ∧ ((rqK (reqO (wordsL s)) = 0 ∧ e = .returned (.tuple #[])) ∨ (rqK (reqO (wordsL s)) = 3 ∧ e = flt 3)) := by
  have HW := hide (wordsOf_any s w (by omega))
  have HZ := hide (fun i => Nat.le_trans (word_size s i) hs)
  have R0 := hide hR
  have C0 := hide hC
  generalize hro : reqO (wordsL s) = ro
  generalize wordsL s = l at *
  clear hR hC hs
  go_enter Tryd.func10, Tryd.ntmps10
  go_wp2_with fail
  refine (unhide HW).mono ?_
  rintro e w2 ⟨A, rfl, ho, hb⟩
  have B2 := hide hb
  have R2 := hide ((unhide R0).below hb)
  have HRQ0 := (req_any A 0 l.length l w2 ho.strs ⟨(by obtain ⟨_, _, _, h, _⟩ := ho.strs; exact h), (ho.lt A rfl).2, fun i hi => (by rw [Nat.zero_add]; exact ho.cell i hi), fun i => Nat.le_trans (unhide HZ i) (by omega)⟩ ((unhide C0).below hb))
  rw [hro] at HRQ0
  have HRQ := hide HRQ0
  clear HRQ0 hro
  clear HW HZ R0 C0 ho hb hl
  go_wp2_with fail
  refine (unhide HRQ).mono ?_
  rintro e w3 h3
  have B3 := hide ((unhide B2).trans (h3.1.mono (unhide B2).size))
  have R3 := hide ((unhide R2).below h3.1)
  clear HRQ B2 R2
  cases ro with
  | none =>
    obtain ⟨_, rfl⟩ := h3.raised
    unfold flt
    go_wp2_with fail
    exact ⟨rfl, w3, unhide B3, unhide R3, Touch.refl _ _, .inr ⟨rfl, rfl⟩⟩
  | some r =>
    obtain ⟨_, rfl⟩ := h3.got
    obtain ⟨f0, f1, f2, f3, f4, f5, f6⟩ := r
    dsimp only [rqV]
    clear h3
    have HY := hide (rq_set (unhide R3) f0 f1 f2 f3 f4 f5 f6)
    obtain ⟨⟨x0, x1, x2, x3, x4, x5, x6⟩, g0, g1, g2, g3, g4, g5, g6⟩ := Blk.c7 (unhide R3)
    clear R3
    go_wp2_with fail
    go_end0
    exact ⟨w3, unhide B3, unhide HY, (((((((Touch.refl (fun q => q = rb) w3).setCell ⟨rb, 0, none⟩ (.string f0) (fun _ => rfl)).setCell ⟨rb, 1, none⟩ (.string f1) (fun _ => rfl)).setCell ⟨rb, 2, none⟩ (.int .i64 f2) (fun _ => rfl)).setCell ⟨rb, 3, none⟩ (.int .i64 f3) (fun _ => rfl)).setCell ⟨rb, 4, none⟩ (.int .i64 f4) (fun _ => rfl)).setCell ⟨rb, 5, none⟩ (.string f5) (fun _ => rfl)).setCell ⟨rb, 6, none⟩ (.string f6) (fun _ => rfl), .inl ⟨rfl, rfl⟩⟩
theorem alloc_sz (w : World) (o : Obj) : (w.alloc o).heap.size = w.heap.size + 1 := by simp
theorem fo_keep {n : Nat} {w w2 w3 : World} {c : Int} (hb : Below n w w2) (h : w3 = w2.setCell ⟨n + 3, 0, none⟩ (.int .i64 c) ∨ w3 = (w2.alloc (.cells #[.int .i64 c] 45)).setCell ⟨n + 3, 0, none⟩ (.int .i64 c)) (hn : n ≤ w2.heap.size) :
    Below n w w3 ∧ ∀ b vs, b ≠ n + 3 → Blk w2 b vs → Blk w3 b vs := by
  rcases h with rfl | rfl
  · have ht := (Touch.refl (fun q => q = n + 3) w2).setCell ⟨n + 3, 0, none⟩ (.int .i64 c) (fun _ => rfl)
    exact ⟨hb.trans (ht.below hn (fun x hx e => by omega)), fun b vs hne h => h.kept ht (fun e => hne e)⟩
  · have h1 := hb.alloc hn (.cells #[.int .i64 c] 45)
    have ht := (Touch.refl (fun q => q = n + 3) (w2.alloc (.cells #[.int .i64 c] 45))).setCell ⟨n + 3, 0, none⟩ (.int .i64 c) (fun _ => rfl)
    exact ⟨h1.trans (ht.below (Nat.le_trans hn (by rw [alloc_sz]; omega)) (fun x hx e => by omega)), fun b vs hne h => (h.alloc (.cells #[.int .i64 c] 45)).kept ht (fun e => hne e)⟩
/-- What a line's reading tells. -/
def rlO (s : ByteArray) : (Int × Int × Int × ByteArray × ByteArray) × ByteArray × Int :=
  if 65536 < s.size then ((0, 0, 0, ⟨#[]⟩, ⟨#[]⟩), ⟨#[]⟩, 2)
  else (((rqF (reqO (wordsL s))).kd, (rqF (reqO (wordsL s))).ss, (rqF (reqO (wordsL s))).sq, (rqF (reqO (wordsL s))).ky, (rqF (reqO (wordsL s))).vl), sayT (rqF (reqO (wordsL s))).what (rqF (reqO (wordsL s))).word, rqK (reqO (wordsL s)))
def rlE (x : (Int × Int × Int × ByteArray × ByteArray) × ByteArray × Int) (w : World) (e : Ending) (w' : World) : Prop :=
  e = .returned (.tuple #[.agg #[.int .i64 x.1.1, .int .i64 x.1.2.1, .int .i64 x.1.2.2.1, .string x.1.2.2.2.1, .string x.1.2.2.2.2], .string x.2.1, .int .i64 x.2.2]) ∧ Below w.heap.size w w'
theorem doO_size {k s q : Int} {y v : ByteArray} {r : Rq} (h : doO k s q y v = some r) : r.what.size = 2 ∧ r.word.size = 0 ∧ r.ky = y ∧ r.vl = v := by
  unfold doO at h
  split at h
  · obtain rfl := Option.some.inj h; exact ⟨rfl, rfl, rfl, rfl⟩
  · cases h
theorem req_size {n : Nat} {l : List ByteArray} (hn : 2 ≤ n) (hz : ∀ i, (l.getD i ByteArray.empty).size ≤ n) : (rqF (reqO l)).what.size ≤ n ∧ (rqF (reqO l)).word.size ≤ n ∧ (rqF (reqO l)).ky.size ≤ n ∧ (rqF (reqO l)).vl.size ≤ n := by
  have z0 : (⟨#[]⟩ : ByteArray).size = 0 := rfl
  have hno : (rqF none).what.size ≤ n ∧ (rqF none).word.size ≤ n ∧ (rqF none).ky.size ≤ n ∧ (rqF none).vl.size ≤ n := ⟨Nat.zero_le _, Nat.zero_le _, Nat.zero_le _, Nat.zero_le _⟩
  have hdo : ∀ (k s q : Int) (y v : ByteArray), y.size ≤ n → v.size ≤ n → (rqF (doO k s q y v)).what.size ≤ n ∧ (rqF (doO k s q y v)).word.size ≤ n ∧ (rqF (doO k s q y v)).ky.size ≤ n ∧ (rqF (doO k s q y v)).vl.size ≤ n := by
    intro k s q y v hy hv
    cases h : doO k s q y v with
    | none => exact hno
    | some r =>
      obtain ⟨a, b, c, d⟩ := doO_size h
      refine ⟨?_, ?_, ?_, ?_⟩
      · show r.what.size ≤ n; omega
      · show r.word.size ≤ n; omega
      · show r.ky.size ≤ n; rw [c]; exact hy
      · show r.vl.size ≤ n; rw [d]; exact hv
  have e0 : (⟨#[]⟩ : ByteArray).size ≤ n := Nat.zero_le _
  unfold reqO
  split
  · exact hno
  split
  · unfold chgO; split
    · split
      · exact hdo _ _ _ _ _ (hz 3) (hz 4)
      · exact hno
    · exact hno
  split
  · unfold chgO; split
    · split
      · exact hdo _ _ _ _ _ (hz 3) (hz 4)
      · exact hno
    · exact hno
  split
  · unfold drpO; split
    · split
      · exact hdo _ _ _ _ _ (hz 3) e0
      · exact hno
    · exact hno
  split
  · unfold sesO; split
    · split
      · exact hdo _ _ _ _ _ e0 e0
      · exact hno
    · exact hno
  split
  · unfold sesO; split
    · split
      · exact hdo _ _ _ _ _ e0 e0
      · exact hno
    · exact hno
  split
  · unfold alO; split
    · exact ⟨hz 0, e0, e0, e0⟩
    · exact hno
  split
  · unfold wwO; split
    · exact ⟨hz 0, hz 1, e0, e0⟩
    · exact hno
  · exact hno
set_option maxRecDepth 100000 in
set_option maxHeartbeats 8000000 in
theorem implReadLine_any (s : ByteArray) (w : World) (hs : s.size ≤ 1048576) (hC : Cns w) :
    Calls Tryd.prog 5 #[.string s] w fun e w' => rlE (rlO s) w e w' := by
  have B0 := hide (((Below.refl w.heap.size w).alloc (Nat.le_refl _) (.cells #[.string s] 9)).alloc (by simp) (.cells #[.int .i64 0, .int .i64 0, .int .i64 0, .string ⟨#[]⟩, .string ⟨#[]⟩] 23))
  have L0 := hide ((Blk.new w #[.string s] 9 w.heap.size rfl).alloc (.cells #[.int .i64 0, .int .i64 0, .int .i64 0, .string ⟨#[]⟩, .string ⟨#[]⟩] 23))
  have D0 := hide (Blk.new (w.alloc (.cells #[.string s] 9)) #[.int .i64 0, .int .i64 0, .int .i64 0, .string ⟨#[]⟩, .string ⟨#[]⟩] 23 (w.heap.size + 1) (by simp))
  have HS0 : ((w.alloc (.cells #[.string s] 9)).alloc (.cells #[.int .i64 0, .int .i64 0, .int .i64 0, .string ⟨#[]⟩, .string ⟨#[]⟩] 23)).heap.size = w.heap.size + 2 := by simp
  have HC := hide hC
  have HO := hide (show rlO s = if 65536 < s.size then ((0, 0, 0, ⟨#[]⟩, ⟨#[]⟩), ⟨#[]⟩, 2) else (((rqF (reqO (wordsL s))).kd, (rqF (reqO (wordsL s))).ss, (rqF (reqO (wordsL s))).sq, (rqF (reqO (wordsL s))).ky, (rqF (reqO (wordsL s))).vl), sayT (rqF (reqO (wordsL s))).what (rqF (reqO (wordsL s))).word, rqK (reqO (wordsL s))) from rfl)
  generalize rlO s = x at *
  clear hC
  go_enter Tryd.func5, Tryd.ntmps5
  go_upto_region 1 with fail
  generalize (w.alloc (.cells #[.string s] 9)).alloc (.cells #[.int .i64 0, .int .i64 0, .int .i64 0, .string ⟨#[]⟩, .string ⟨#[]⟩] 23) = w0 at *
  have l0 := (unhide L0).cell 0 rfl
  by_cases hbig : 65536 < s.size
  · have e := (unhide HO).trans (if_pos hbig)
    subst e
    have hi : decide ((s.size : Int) > 65536) = true := decide_eq_true (by omega)
    have hT := (((((Touch.refl (fun x => x = w.heap.size + 1) w0).setCell ⟨w.heap.size + 1, 0, none⟩ (.int .i64 0) (fun _ => rfl)).setCell ⟨w.heap.size + 1, 1, none⟩ (.int .i64 0) (fun _ => rfl)).setCell ⟨w.heap.size + 1, 2, none⟩ (.int .i64 0) (fun _ => rfl)).setCell ⟨w.heap.size + 1, 3, none⟩ (.string ⟨#[]⟩) (fun _ => rfl)).setCell ⟨w.heap.size + 1, 4, none⟩ (.string ⟨#[]⟩) (fun _ => rfl)
    have HY := hide ((((((unhide D0).set 0 (.int .i64 0) (by simp)).set 1 (.int .i64 0) (by simp)).set 2 (.int .i64 0) (by simp)).set 3 (.string ⟨#[]⟩) (by simp)).set 4 (.string ⟨#[]⟩) (by simp))
    have HK := hide ((unhide B0).trans (hT.below (unhide B0).size (fun x hx e => by omega)))
    obtain ⟨⟨x0, x1, x2, x3, x4⟩, g0, g1, g2, g3, g4⟩ := Blk.c5y (unhide D0)
    clear hT D0 HC HO L0 B0
    go_wp2_with fail
    obtain ⟨⟨z0, z1, z2, z3, z4⟩, _⟩ := Blk.c5y (unhide HY)
    refine bodyPost_ret (v := .tuple #[.agg #[.int .i64 0, .int .i64 0, .int .i64 0, .string ⟨#[]⟩, .string ⟨#[]⟩], .string ⟨#[]⟩, .int .i64 2]) (by simp [results, Tryd.results5, go_sem, z0, z1, z2, z3, z4]) rfl ?_
    exact ⟨rfl, unhide HK⟩
  · have e := (unhide HO).trans (if_neg hbig)
    have hi : decide ((s.size : Int) > 65536) = false := decide_eq_false (by omega)
    have hZ := hide (req_size (l := wordsL s) (n := 65536) (by omega) (fun i => Nat.le_trans (word_size s i) (by omega)))
    have HAC := hide (fun lb rb wx (hl : wx.cell? ⟨lb, 0, none⟩ = some (.string s)) hR hCx => act_any lb rb s wx hl hR hCx (by omega))
    generalize reqO (wordsL s) = ro at *
    clear HO
    have B1 := hide ((unhide B0).alloc (unhide B0).size (.cells #[.string ⟨#[]⟩, .string ⟨#[]⟩, .int .i64 0, .int .i64 0, .int .i64 0, .string ⟨#[]⟩, .string ⟨#[]⟩] 33))
    have L1 := hide ((unhide L0).alloc (.cells #[.string ⟨#[]⟩, .string ⟨#[]⟩, .int .i64 0, .int .i64 0, .int .i64 0, .string ⟨#[]⟩, .string ⟨#[]⟩] 33))
    have D1 := hide ((unhide D0).alloc (.cells #[.string ⟨#[]⟩, .string ⟨#[]⟩, .int .i64 0, .int .i64 0, .int .i64 0, .string ⟨#[]⟩, .string ⟨#[]⟩] 33))
    have Q1 := hide (Blk.new w0 #[.string ⟨#[]⟩, .string ⟨#[]⟩, .int .i64 0, .int .i64 0, .int .i64 0, .string ⟨#[]⟩, .string ⟨#[]⟩] 33 (w.heap.size + 2) HS0)
    have HS1 : (w0.alloc (.cells #[.string ⟨#[]⟩, .string ⟨#[]⟩, .int .i64 0, .int .i64 0, .int .i64 0, .string ⟨#[]⟩, .string ⟨#[]⟩] 33)).heap.size = w.heap.size + 3 := by rw [alloc_sz]; omega
    clear B0 L0 D0 hs hbig
    go_upto_region 4 with fail
    (try rw [HS0])
    clear l0 HS0
    generalize w0.alloc (.cells #[.string ⟨#[]⟩, .string ⟨#[]⟩, .int .i64 0, .int .i64 0, .int .i64 0, .string ⟨#[]⟩, .string ⟨#[]⟩] 33) = w1 at *
    have B2 := hide ((unhide B1).alloc (unhide B1).size (.cells #[.int .i64 0] 3))
    have D2 := hide ((unhide D1).alloc (.cells #[.int .i64 0] 3))
    have Q2 := hide ((unhide Q1).alloc (.cells #[.int .i64 0] 3))
    have K2 := hide (Blk.new w1 #[.int .i64 0] 3 (w.heap.size + 3) HS1)
    have l2 := ((unhide L1).alloc (.cells #[.int .i64 0] 3)).cell 0 rfl
    have FO := hide (faultOf_any #[.pointer (some ⟨w.heap.size, 0, none⟩), .pointer (some ⟨w.heap.size + 2, 0, none⟩)] w1 (fun c w2 => Below w.heap.size w w2 ∧ Blk w2 (w.heap.size + 1) [.int .i64 0, .int .i64 0, .int .i64 0, .string ⟨#[]⟩, .string ⟨#[]⟩] ∧ Blk w2 (w.heap.size + 2) (rqC (rqF ro)) ∧ rqK ro = c) (by
      refine (unhide HAC w.heap.size (w.heap.size + 2) _ l2 (unhide Q2) ((unhide HC).below (unhide B2))).mono ?_
      rintro e w2 ⟨w3, hb, hq, ht, hk⟩
      have F := (unhide B2).trans ((hb.mono (unhide B2).size))
      have F2 := F.trans (ht.below F.size (fun x hx e => by omega))
      have D3 := ((unhide D2).below hb).kept ht (fun e => by omega)
      have K3 := ((unhide K2).below hb).kept ht (fun e => by omega)
      rw [HS1]
      refine ⟨K3, ?_⟩
      rcases hk with ⟨h1, h2⟩ | ⟨h1, h2⟩
      · exact .inl ⟨h2, F2, D3, hq, h1⟩
      · exact .inr ⟨3, h2, F2, D3, hq, h1⟩))
    clear HAC B2 D2 Q2 K2 l2 B1 L1 D1 Q1 HC
    rw [HS1] at FO
    go_wp2_with fail
    refine (unhide FO).mono ?_
    rintro e w4 ⟨c, w2, ⟨hb, hd, hq, hc⟩, hk, rfl, hw⟩
    obtain ⟨hb2, hkp⟩ := fo_keep hb hw hb.size
    have B4 := hide hb2
    have D4 := hide (hkp _ _ (by omega) hd)
    have Q4 := hide (hkp _ _ (by omega) hq)
    have hc4 := hide hc
    clear hb hd hq hk hw hb2 hkp hc FO HS1 hi
    go_upto_region 5 with fail
    have E := hide e
    clear e
    generalize rqK ro = rk at *
    generalize rqF ro = rr at *
    obtain ⟨f0, f1, f2, f3, f4, f5, f6⟩ := rr
    unfold rqC at Q4
    dsimp only at Q4 hZ E
    obtain ⟨z0, z1, z2, z3⟩ := unhide hZ
    have HT := hide (fun wx => reqText_any ⟨f0, f1, f2, f3, f4, f5, f6⟩ wx z0 z1)
    have HD := hide (fun wx => copied_any f2 f3 f4 f5 f6 wx (by omega) (by omega))
    unfold rqV at HT
    dsimp only at HT
    clear z0 z1 z2 z3 hZ
    generalize sayT f0 f1 = u at *
    have hd : Below w4.heap.size w4 w4.drew := below_drewN (Below.refl w4.heap.size w4) 1
    have BD := hide ((unhide B4).trans (hd.mono (unhide B4).size))
    have DD := hide ((unhide D4).below hd)
    have QD := hide ((unhide Q4).below hd)
    clear hd B4 D4 Q4
    obtain ⟨⟨q0, q1, q2, q3, q4, q5, q6⟩, _⟩ := Blk.c7 (unhide QD)
    refine wp_region_held_drew (S := (fun wx => wx.cell? ⟨w.heap.size + 2, 0, none⟩ = some (.string f0) ∧ wx.cell? ⟨w.heap.size + 2, 1, none⟩ = some (.string f1) ∧ wx.cell? ⟨w.heap.size + 2, 2, none⟩ = some (.int .i64 f2) ∧ wx.cell? ⟨w.heap.size + 2, 3, none⟩ = some (.int .i64 f3) ∧ wx.cell? ⟨w.heap.size + 2, 4, none⟩ = some (.int .i64 f4) ∧ wx.cell? ⟨w.heap.size + 2, 5, none⟩ = some (.string f5) ∧ wx.cell? ⟨w.heap.size + 2, 6, none⟩ = some (.string f6))) (by kernel_rfl) ?_ (fun hHeld => ?_)
    · exact ⟨q0, q1, q2, q3, q4, q5, q6⟩
    generalize w4.drew = wd at *
    refine tkH 0 rfl ?_
    refine tkH 1 rfl ?_
    refine tkH 3 rfl ?_
    refine tkH 5 rfl ?_
    refine wpAnyH_ready (rs := [2]) (by kernel_rfl) (by simp) ?_
    refine AllReadyH.cons (o := _) rfl (fun K hK => ?_) AllReadyH.nil
    go_simp
    refine (unhide HD _).mono ?_
    rintro e w6 ⟨rfl, hb⟩
    have DD := hide ((unhide DD).below hb)
    have QD := hide ((unhide QD).below hb)
    have BD := hide ((unhide BD).trans (hb.mono (unhide BD).size))
    clear hb
    go_wp2_with fail
    refine hK.out _ _ ?_ (fun hHeld => ?_)
    · obtain ⟨⟨q0, q1, q2, q3, q4, q5, q6⟩, _⟩ := Blk.c7 (unhide QD)
      exact ⟨q0, q1, q2, q3, q4, q5, q6⟩
    clear hK K
    (try simp only [Act.put, List.getElem_toArray, List.getElem_cons_succ, List.getElem_cons_zero, List.setIfInBounds_toArray, List.set_cons_zero, List.set_cons_succ])
    refine wpAnyH_ready (rs := [4]) (by kernel_rfl) (by simp) ?_
    refine AllReadyH.cons (o := _) rfl (fun K hK => ?_) AllReadyH.nil
    go_simp
    refine (unhide HT _).mono ?_
    rintro e w5 ⟨rfl, hb⟩
    have DD := hide ((unhide DD).below hb)
    have QD := hide ((unhide QD).below hb)
    have BD := hide ((unhide BD).trans (hb.mono (unhide BD).size))
    clear hb
    go_wp2_with fail
    refine hK.out _ _ ?_ (fun hHeld => ?_)
    · obtain ⟨⟨q0, q1, q2, q3, q4, q5, q6⟩, _⟩ := Blk.c7 (unhide QD)
      exact ⟨q0, q1, q2, q3, q4, q5, q6⟩
    clear hK K
    (try simp only [Act.put, List.getElem_toArray, List.getElem_cons_succ, List.getElem_cons_zero, List.setIfInBounds_toArray, List.set_cons_zero, List.set_cons_succ])
    have hT := (((((Touch.refl (fun x => x = w.heap.size + 1) w5).setCell ⟨w.heap.size + 1, 0, none⟩ (.int .i64 f2) (fun _ => rfl)).setCell ⟨w.heap.size + 1, 1, none⟩ (.int .i64 f3) (fun _ => rfl)).setCell ⟨w.heap.size + 1, 2, none⟩ (.int .i64 f4) (fun _ => rfl)).setCell ⟨w.heap.size + 1, 3, none⟩ (.string f5) (fun _ => rfl)).setCell ⟨w.heap.size + 1, 4, none⟩ (.string f6) (fun _ => rfl)
    have HY := hide ((((((unhide DD).set 0 (.int .i64 f2) (by simp)).set 1 (.int .i64 f3) (by simp)).set 2 (.int .i64 f4) (by simp)).set 3 (.string f5) (by simp)).set 4 (.string f6) (by simp))
    have HK := hide ((unhide BD).trans (hT.below (unhide BD).size (fun x hx e => by omega)))
    have hCT := (unhide QD).kept hT (fun e => by omega)
    obtain ⟨⟨x0, x1, x2, x3, x4⟩, g0, g1, g2, g3, g4⟩ := Blk.c5y (unhide DD)
    clear q0 q1 q2 q3 q4 q5 q6 hT
    refine wpAnyH_ready (rs := [6]) (by kernel_rfl) (by simp) ?_
    refine AllReadyH.cons (o := _) rfl (fun K hK => ?_) AllReadyH.nil
    go_simp
    refine hK.out _ _ ?_ (fun hHeld => ?_)
    · obtain ⟨⟨q0, q1, q2, q3, q4, q5, q6⟩, _⟩ := Blk.c7 hCT
      exact ⟨q0, q1, q2, q3, q4, q5, q6⟩
    clear hK K hCT
    (try simp only [Act.put, List.getElem_toArray, List.getElem_cons_succ, List.getElem_cons_zero, List.setIfInBounds_toArray, List.set_cons_zero, List.set_cons_succ])
    refine tkH 7 rfl ?_
    refine tkH 8 rfl ?_
    refine wpAnyH_done (by kernel_rfl) ?_ _
    clear x0 x1 x2 x3 x4 g0 g1 g2 g3 g4 hHeld
    go_wp2_with fail
    obtain ⟨⟨z0, z1, z2, z3, z4⟩, _⟩ := Blk.c5y (unhide HY)
    have hc5 := unhide hc4
    subst hc5
    refine bodyPost_ret (v := .tuple #[.agg #[.int .i64 f2, .int .i64 f3, .int .i64 f4, .string f5, .string f6], .string u, .int .i64 rk]) (by simp [results, Tryd.results5, go_sem, z0, z1, z2, z3, z4]) rfl ?_
    refine ⟨?_, unhide HK⟩
    rw [unhide E]
end Go.Proofs.YtihhbngpajephaaDoor.Sha
