/- The writer's texts. impl.CommandBytes, walked. The ledger's step, pure: where a session stands, what a command makes of log, map and sessions, what stays right. slices.Clone of texts and of sessions. -/
import Derived.Test.YtnhhnjmjodmacaaGreatDoorQan23
import Derived.Test.YtnhhnjmjodmacaaGreatDoorQan01
import Derived.Test.YtnhhnjmjodmacaaGreatDoorQan02
import Derived.Test.YtnhhnjmjodmacaaGreatDoorQan15
import Derived.Test.YtnhhnjmjodmacaaGreatDoorQan10
import Derived.Test.YtnhhnjmjodmacaaGreatDoorQan22
import Derived.Test.YtnhhnjmjodmacaaGreatDoorQan08
import Derived.Test.YtnhhnjmjodmacaaGreatDoorQan00
import Derived.Test.YtnhhnjmjodmacaaGreatDoorQan18
import Derived.SliceStrings
import Derived.Deep.RegionHeld3
namespace Go.Proofs.YtnhhnjmjodmacaaGreatDoor
open Go.ChangeShapes Go.WideShapes Go.ChangeAt Go.RowKit
set_option linter.unusedVariables false
set_option maxRecDepth 100000 in
set_option maxHeartbeats 1000000 in
theorem texts_any (b : Nat) (v : Value) (xs : List Int) (ss : List ByteArray) (L off cap : Nat) (w : World) (h : Wr w b v xs) (hL : L < w.heap.size) (hLb : L ≠ b) (hLv : v.ownBlock ≠ some L)
    (hc : ∀ i, i < ss.length → w.cell? ⟨L, off + i, none⟩ = some (.string (ss.getD i ByteArray.empty))) (hr : ∀ i, (ss.getD i ByteArray.empty).size ≤ 255) (hlen : sizes ss ≤ 60000) (hxl : xs.length ≤ 10000) (hsl : ss.length ≤ 4096) :
    Calls Tryz.prog 149 #[.pointer (some ⟨b, 0, none⟩), .slice (some ⟨L, off, none⟩) ss.length cap] w fun e w' => e = .returned (.tuple #[]) ∧ ∃ v', Wr w' b v' (xs ++ textsL ss) ∧ Touch (WT b v) w w' ∧ Lies v v' w.heap.size := by
  obtain ⟨i0, hi, hz0, hz1, hz2⟩ := info_parts info5
  have HW := hide h
  have HC := hide hc
  have HR := hide hr
  clear h hc hr
  go_enter Tryz.func149, Tryz.ntmps149
  go_wp2_with fail
  go_loopw [5, 8] (fun _ i wr => ∃ (k : Nat) (u : Value) (ys : List Int), k ≤ ss.length ∧ i = .int .i64 k ∧ Wr wr b u ys ∧ ys ++ textsL (ss.drop k) = xs ++ textsL ss ∧ Touch (WT b v) w wr ∧ Lies v u w.heap.size) (fun _ i _ => ss.length - (intOf i).toNat)
  case atStart => exact ⟨0, v, xs, Nat.zero_le _, rfl, unhide HW, rfl, Touch.refl _ _, Lies.refl _ _⟩
  case round =>
    obtain ⟨k, u, ys, hk, rfl, hW, hE, hT, hLi⟩ := hrel
    by_cases hlt : k < ss.length
    · have hs1 : wr.cell? ⟨L, off + k, none⟩ = some (.string (ss.getD k ByteArray.empty)) := by
        rw [hT.cell (p := ⟨L, off + k, none⟩) hL (fun hx => by rcases hx with h1 | h1; exact hLb h1; exact hLv h1)]
        exact unhide HC k hlt
      have hr1 := unhide HR k
      have hk0 : (0 : Int) ≤ (k : Int) := by omega
      have hk1 : (k : Int) < (ss.length : Int) := by omega
      have hyl : ys.length ≤ 70000 := by
        have e := congrArg List.length hE
        rw [List.length_append, List.length_append, textsL_len ss] at e
        omega
      have HD := hide (textsL_drop ss k hlt)
      have HR2 := hide (And.intro hW (And.intro hE (And.intro hT hLi)))
      have hbl := hW.lt
      clear hW hE hT hLi
      generalize ss.getD k ByteArray.empty = s at *
      go_wp2_with fail
      refine (numbers_new1 b 1 1 rfl u ys s.size wr (unhide HR2).1 _ rfl (by omega) (by omega) (by omega) hyl).mono ?_
      rintro e w2 ⟨rfl, v2, hW2, hT2, hL2⟩
      obtain ⟨y2, hy2⟩ : ∃ y2, y2 = ys ++ encN (s.size : Int) 1 := ⟨_, rfl⟩
      rw [← hy2] at hW2
      have hcell := hW2.1
      have hfr := hW2.2.1
      have hb2 := hW2.2.2.1
      have hne : some b ≠ v2.ownBlock := fun e => by have := (hW2.row b e.symm).1; omega
      have HW2 := hide hW2
      have HN := hide hne
      have hl2 : y2.length ≤ 70001 := by rw [hy2, List.length_append, encN_len]; omega
      have hl3 : 0 < y2.length := by rw [hy2, List.length_append, encN_len]; omega
      have HT2 := hide ((unhide HR2).2.2.1.wr (unhide HR2).2.2.2 hT2)
      have HL2 := hide ((unhide HR2).2.2.2.trans hL2 (unhide HR2).2.2.1.size)
      have he : encN (s.size : Int) 1 = [(s.size : Int)] := by simp [encN]; omega
      have HE2 := hide he
      have HY := hide hy2
      clear hW2 hT2 hL2 hne he hy2
      go_wp2_with (at_builtin; refine wpList_append_str _ rfl _ _ _ _ rfl (b + 1) 5 i0 Tryz.underlying127 Tryz.underlying9 hi hz0 hz1 hz2 v2 _ _ rfl (unhide HW2).2.2.2.1 s rfl (by omega) (by omega) (by omega) ?_; intro gg capg w3 hown3 hgrow hat; have HAT := hide hat; clear hat; have hc3 : w3.cell? ⟨b, 0, none⟩ = some v2 := (hgrow.cell_far ⟨b, 0, none⟩ hb2 (unhide HN)).trans hcell; have hf3 : w3.frozen? ⟨b, 0, none⟩ = false := (hgrow.frozen_far ⟨b, 0, none⟩ hb2 (unhide HN)).trans hfr)
      have R := hide ((unhide HW2).appended (ys := bytesI s) (by rw [List.map_append, ← strCells_eq]; exact hown3) hgrow (by
        rcases unhide HAT with e | e
        · left; rw [e]; rfl
        · right; rw [e]; rfl) (bytesI_range s))
      clear hown3 hgrow HAT hc3 hf3
      go_roundw
      case rel =>
        refine ⟨k + 1, _, _, by omega, by go_num, (unhide R).1, ?_, (unhide HT2).wr (unhide HL2) (unhide R).2.1, (unhide HL2).trans (unhide R).2.2 (unhide HT2).size⟩
        rw [← (unhide HR2).2.1, unhide HD, unhide HY, unhide HE2]; simp
      case measure => simp [intOf]; omega
    · obtain rfl : k = ss.length := by omega
      have R := hide (And.intro hW (And.intro hE (And.intro hT hLi)))
      clear hW hE hT hLi
      go_wp2_with fail
      go_end0
      refine ⟨rfl, u, ?_, (unhide R).2.2.1, (unhide R).2.2.2⟩
      have e := (unhide R).2.1
      rw [List.drop_length] at e
      simp only [textsL, List.append_nil] at e
      rw [← e]; exact (unhide R).1
theorem texts_new2 (b : Nat) (v : Value) (xs : List Int) (s s2 : ByteArray) (w : World) (h : Wr w b v xs) (Lb : Nat) (hLb : w.heap.size = Lb) (h1 : s.size ≤ 255) (h2 : s2.size ≤ 255) (hxl : xs.length ≤ 10000) :
    Calls Tryz.prog 149 #[.pointer (some ⟨b, 0, none⟩), .slice (some ⟨Lb, 0, none⟩) 2 2] (w.alloc (.cells #[.string s, .string s2] 9)) fun e w' => e = .returned (.tuple #[]) ∧ ∃ v', Wr w' b v' (xs ++ textsL [s, s2]) ∧ Touch (WT b v) w w' ∧ Lies v v' w.heap.size := by
  subst hLb
  refine (texts_any b v xs [s, s2] w.heap.size 0 2 _ (h.alloc _) (by simp) (by have := h.lt; omega) (fun e => by have := (h.row _ e).2; omega) (fun i hi => ?_) (fun i => ?_) (by simp [sizes]; omega) hxl (by simp)).mono ?_
  · rcases (show i = 0 ∨ i = 1 by simp at hi; omega) with rfl | rfl
    · rw [World.cell?_alloc_at _ _ _ _ rfl]; rfl
    · rw [World.cell?_alloc_at _ _ _ _ rfl]; rfl
  · cases i with
    | zero => simpa using h1
    | succ i => cases i with
      | zero => simpa using h2
      | succ i => simp
  · rintro e w' ⟨rfl, v', hW, hT, hL⟩
    refine ⟨rfl, v', hW, ((Touch.refl (WT b v) w).alloc _).trans hT (fun _ _ h => h), fun k hk => ?_⟩
    rcases hL k hk with e | e
    · exact .inl e
    · right; simp at e; omega
end Go.Proofs.YtnhhnjmjodmacaaGreatDoor
namespace Go.Proofs.YtnhhnjmjodmacaaGreatDoor
open Go.ChangeShapes Go.WideShapes Go.ChangeAt Go.RowKit
set_option linter.unusedVariables false
def cmdBytes (k s q : Int) (key val : ByteArray) : List Int := encN k 1 ++ (encN s 2 ++ encN q 2) ++ textsL [key, val]
theorem cmdOK_bounds {k s q : Int} {key val : ByteArray} (h : cmdOK k s q key val = true) : 1 ≤ k ∧ k ≤ 5 ∧ 0 ≤ s ∧ s ≤ 65535 ∧ 0 ≤ q ∧ q ≤ 65535 ∧ key.size ≤ 24 ∧ val.size ≤ 60 := by
  unfold cmdOK at h
  split at h
  · rename_i h1
    simp only [Bool.and_eq_true, decide_eq_true_eq, inB_iff] at h1
    have hk : 1 ≤ k ∧ k ≤ 5 ∧ key.size ≤ 24 := by
      split at h
      · rw [inB_iff] at h; omega
      · split at h
        · simp only [Bool.and_eq_true, inB_iff] at h; omega
        · split at h
          · simp only [Bool.and_eq_true, emptyB_iff] at h; omega
          · cases h
    omega
  · cases h
/-- A command's bytes and the code beside them. -/
def cmdOut (k s q : Int) (key val : ByteArray) : List Int × Int := if cmdOK k s q key val then (cmdBytes k s q key val, 0) else ([], 1)

set_option maxRecDepth 100000 in
set_option maxHeartbeats 1000000 in
theorem implCommandBytes_any (k s q : Int) (key val : ByteArray) (w : World) (hk : key.size ≤ maxLen) (hv : val.size ≤ maxLen) :
    Calls Tryz.prog 136 #[.agg #[.int .i64 k, .int .i64 s, .int .i64 q, .string key, .string val]] w fun e w' => ∃ v', e = .returned (.tuple #[v', .int .i64 (cmdOut k s q key val).2]) ∧ OwnB w.heap.size w' v' (cmdOut k s q key val).1 ∧ Below w.heap.size w w' := by
  rcases Bool.eq_false_or_eq_true (cmdOK k s q key val) with h1 | h1
  case inr =>
    have E := hide (show cmdOut k s q key val = ([], 1) by simp [cmdOut, h1])
    go_enter Tryz.func136, Tryz.ntmps136
    go_wp2_with fail
    refine (implCommandOK_any k s q key val _ hk hv).mono ?_
    rintro e w1 ⟨rfl, hb1⟩
    have HB := hide (((Below.refl w.heap.size w).alloc (Nat.le_refl _) (.cells #[.int .i64 k, .int .i64 s, .int .i64 q, .string key, .string val] 44)).trans (hb1.mono (by simp)))
    clear hb1
    go_wp2_with fail
    go_ret2
    exact ⟨.slice none 0 0, ret_two (by rw [unhide E]), by rw [unhide E]; exact OwnB.nil _ _, unhide HB⟩
  case inl =>
    have E := hide (show cmdOut k s q key val = (cmdBytes k s q key val, 0) by simp [cmdOut, h1])
    obtain ⟨b1, b2, b3, b4, b5, b6, b7, b8⟩ := cmdOK_bounds h1
    go_enter Tryz.func136, Tryz.ntmps136
    go_wp2_with fail
    refine (implCommandOK_any k s q key val _ hk hv).mono ?_
    rintro e w1 ⟨rfl, hb1⟩
    have hb1' : Below (w.heap.size + 1) (w.alloc (.cells #[.int .i64 k, .int .i64 s, .int .i64 q, .string key, .string val] 44)) w1 := hb1.mono (by simp)
    have HB1 := hide hb1'
    obtain ⟨c0, c1, c2, c3, c4⟩ := five_cell rfl hb1'
    have hsz : w.heap.size < w1.heap.size := by have := hb1'.size; simp at this; omega
    clear hb1 hb1'
    go_wp2_with fail
    have W0 := hide (Wr.new w1 w1.heap.size rfl 197)
    have HS0 : Hid ((w1.alloc (.cells #[.slice none 0 0] 197)).heap.size = w1.heap.size + 1) := hide (by simp)
    have HB0 := hide ((unhide HB1).alloc (by omega) (.cells #[.slice none 0 0] 197))
    generalize w1.alloc (.cells #[.slice none 0 0] 197) = w2 at *
    refine (numbers_new1 w1.heap.size 1 1 rfl _ [] k w2 (unhide W0) _ (unhide HS0) (by omega) (by omega) (by omega) (by simp)).mono ?_
    rintro e w3 ⟨rfl, v3, hW3, hT3, hL3⟩
    have HB3 := hide ((unhide HB0).trans ((unhide W0).below hT3 hsz))
    have W3 := hide hW3
    obtain ⟨c0, c1, c2, c3, c4⟩ := five_cell rfl (unhide HB3)
    clear hW3 hT3 hL3
    go_wp2_with fail
    refine (numbers_new2 w1.heap.size 2 2 rfl v3 _ s q w3 (unhide W3) _ rfl (by omega) (by omega) (by omega) (by omega) (by omega) (by simp [encN])).mono ?_
    rintro e w4 ⟨rfl, v4, hW4, hT4, hL4⟩
    have HB4 := hide ((unhide HB3).trans ((unhide W3).below hT4 hsz))
    have W4 := hide hW4
    obtain ⟨c0, c1, c2, c3, c4⟩ := five_cell rfl (unhide HB4)
    clear hW4 hT4 hL4
    go_wp2_with fail
    refine (texts_new2 w1.heap.size v4 _ key val w4 (unhide W4) _ rfl (by omega) (by omega) (by simp [encN])).mono ?_
    rintro e w5 ⟨rfl, v5, hW5, hT5, hL5⟩
    have HB5 := hide ((unhide HB4).trans ((unhide W4).below hT5 hsz))
    have W5 := hide hW5
    have hcell := hW5.1
    clear hW5 hT5 hL5
    go_wp2_with fail
    go_ret2
    refine ⟨v5, ret_two (by rw [unhide E]), ?_, ((Below.refl w.heap.size w).alloc (Nat.le_refl _) _).trans ((unhide HB5).mono (by omega))⟩
    rw [unhide E]
    exact OwnB.mono (B := w1.heap.size + 1) ⟨by have h := (unhide W5).2.2.2.1; simpa [cmdBytes] using h, by have h := (unhide W5).2.2.2.2; simpa [cmdBytes] using h⟩ (by omega)
end Go.Proofs.YtnhhnjmjodmacaaGreatDoor
namespace Go.Proofs.YtnhhnjmjodmacaaGreatDoor.Sha
open Go.ChangeShapes Go.WideShapes Go.ChangeAt Go.RowKit Go.Deep
set_option linter.unusedVariables false
set_option linter.unusedSimpArgs false
def dropO (h : ByteArray) : Option Tr → Option Tr
  | none => none
  | some t => dropT h t
/-- The leaf of a command. -/
def leafC (c : Cm) : ByteArray := leafV (strOfNums (cmdBytes c.kd c.ss c.sq c.ky c.vl))
theorem leafC_size {c : Cm} (hk : c.ky.size ≤ 24) (hv : c.vl.size ≤ 60) : (leafC c).size = 32 := by
  obtain ⟨ckd, css, csq, cky, cvl⟩ := c
  dsimp only at hk hv
  have e : (strOfNums (cmdBytes ckd css csq cky cvl)).size ≤ 100 := by
    have e1 : cky.data.size = cky.size := rfl
    have e2 : cvl.data.size = cvl.size := rfl
    simp only [strOfNums, ByteArray.size, cmdBytes, List.length_append, encN_len, textsL_len, sizes, List.size_toArray, List.length_map]
    omega
  exact hash_size (by simp [bytesI_len]; omega)
def cmK (c : Cm) : Bool := cmdOK c.kd c.ss c.sq c.ky c.vl
/-- What a command makes of log and map where its key has this value, or none. -/
def chOut (ls : List ByteArray) (o : Option Tr) (c : Cm) (g : Option ByteArray) : List ByteArray × Option Tr × Re :=
  if c.kd = 3 ∧ g = none then (ls, o, ⟨2, 0, ⟨#[]⟩⟩)
  else if 0 < exV ls.length (lvO o) g.isSome (vbV c.kd c.vl (g.getD ⟨#[]⟩)).size then (ls, o, ⟨6, 0, ⟨#[]⟩⟩)
  else (ls ++ [leafC c], if c.kd = 3 then dropO (kh c.ky) o else some (putO o c.ky (vbV c.kd c.vl (g.getD ⟨#[]⟩))), ⟨1, (ls.length : Int) + 1, vbV c.kd c.vl (g.getD ⟨#[]⟩)⟩)
structure Lst where
  ls : List ByteArray
  o : Option Tr
  ss : List Se
/-- What a command that asks for a session makes of a ledger. -/
def svOut (x : Lst) (c : Cm) (q : Nat) : Lst × Re :=
  if c.sq = (x.ss.getD q default).sq ∧ (x.ss.getD q default).kd ≠ 0 then (x, ⟨(x.ss.getD q default).kd, (x.ss.getD q default).pl, (x.ss.getD q default).vl⟩)
  else if c.sq ≤ (x.ss.getD q default).sq then (x, ⟨3, 0, ⟨#[]⟩⟩)
  else (⟨(chOut x.ls x.o c (getV x.o c.ky)).1, (chOut x.ls x.o c (getV x.o c.ky)).2.1, x.ss.set q ⟨(x.ss.getD q default).id, c.sq, (chOut x.ls x.o c (getV x.o c.ky)).2.2.kd, (chOut x.ls x.o c (getV x.o c.ky)).2.2.pl, (chOut x.ls x.o c (getV x.o c.ky)).2.2.vl⟩⟩, (chOut x.ls x.o c (getV x.o c.ky)).2.2)
/-- What a command makes of a ledger. -/
def apOut (x : Lst) (c : Cm) : Lst × Re :=
  if c.kd = 4 then (if hasS x.ss c.ss then (x, ⟨5, 0, ⟨#[]⟩⟩) else if x.ss.length = 8 then (x, ⟨6, 0, ⟨#[]⟩⟩) else (⟨x.ls, x.o, insS x.ss (posS x.ss c.ss) (newS c.ss)⟩, ⟨1, 0, ⟨#[]⟩⟩))
  else if hasS x.ss c.ss = false then (x, ⟨4, 0, ⟨#[]⟩⟩)
  else if c.kd = 5 then (⟨x.ls, x.o, delS x.ss (posS x.ss c.ss)⟩, ⟨1, 0, ⟨#[]⟩⟩)
  else svOut x c (posS x.ss c.ss)
/-- A right ledger. -/
structure LOK (x : Lst) : Prop where
  n : x.ls.length ≤ 50
  h : ∀ s ∈ x.ls, s.size = 32
  ok : OkO x.o
  ri : RiseO x.o
  sp : SepO x.o
  m : x.ss.length ≤ 8
  rs : RiseS x.ss
  sb : ∀ s ∈ x.ss, (0 ≤ s.id ∧ s.id ≤ 65535) ∧ (0 ≤ s.sq ∧ s.sq ≤ 65535) ∧ (0 ≤ s.kd ∧ s.kd ≤ 6) ∧ (0 ≤ s.pl ∧ s.pl ≤ 50) ∧ s.vl.size ≤ 60
theorem LOK.keys {x : Lst} (h : LOK x) : lvO x.o ≤ 40 := by
  have := h.sp
  cases ho : x.o with
  | none => simp [lvO]
  | some t => rw [ho] at this; exact this.2
theorem dropT_lvN (h : ByteArray) : ∀ t : Tr, lvO (dropT h t) ≤ t.lvN
  | .leaf _ _ => Nat.zero_le _
  | .fork a hh l r => by
    have h1 := dropT_lvN h l
    have h2 := dropT_lvN h r
    unfold dropT
    show _ ≤ l.lvN + r.lvN
    split
    · cases hd : dropT h l with
      | none => show r.lvN ≤ _; omega
      | some l' => rw [hd] at h1; show l'.lvN + r.lvN ≤ _; have : l'.lvN ≤ l.lvN := h1; omega
    · cases hd : dropT h r with
      | none => show l.lvN ≤ _; omega
      | some r' => rw [hd] at h2; show l.lvN + r'.lvN ≤ _; have : r'.lvN ≤ r.lvN := h2; omega
theorem getV_size {o : Option Tr} (h : OkO o) {key x : ByteArray} (hg : getV o key = some x) : x.size ≤ 60 := by
  cases o with
  | none => cases hg
  | some t =>
    unfold getV at hg
    dsimp only at hg
    split at hg
    · cases hg
      exact (lead_ok _ t h).2
    · cases hg
theorem cmK_key {c : Cm} (h : cmK c = true) (hk : c.kd ≠ 4) (hk5 : c.kd ≠ 5) : okK c.ky = true ∧ c.vl.size ≤ 60 ∧ (0 ≤ c.sq ∧ c.sq ≤ 65535) ∧ (c.kd = 1 ∨ c.kd = 2 ∨ c.kd = 3) ∧ (c.kd = 3 → c.vl.size = 0) := by
  unfold cmK cmdOK at h
  split at h
  · rename_i h1
    simp only [Bool.and_eq_true, decide_eq_true_eq] at h1
    split at h
    · rename_i h2
      refine ⟨okK_iff.2 ?_, h1.2, inB_iff.1 h1.1.2, by omega, fun e => by omega⟩
      have := inB_iff.1 h; omega
    · split at h
      · rename_i h3
        simp only [Bool.and_eq_true] at h
        refine ⟨okK_iff.2 ?_, h1.2, inB_iff.1 h1.1.2, .inr (.inr h3), fun _ => ?_⟩
        · have := inB_iff.1 h.1; omega
        · exact emptyB_iff.1 h.2
      · rw [if_neg (by omega)] at h; cases h
  · cases h
theorem cmK_ses {c : Cm} (h : cmK c = true) : 0 ≤ c.ss ∧ c.ss ≤ 65535 := by
  unfold cmK cmdOK at h
  split at h
  · rename_i h1
    simp only [Bool.and_eq_true] at h1
    exact inB_iff.1 h1.1.1
  · cases h
def ReOK (r : Re) : Prop := (0 ≤ r.kd ∧ r.kd ≤ 6) ∧ (0 ≤ r.pl ∧ r.pl ≤ 50) ∧ r.vl.size ≤ 60
theorem reOK_of (k : Int) (h0 : 0 ≤ k) (h1 : k ≤ 6) : ReOK ⟨k, 0, ⟨#[]⟩⟩ := ⟨⟨h0, h1⟩, ⟨by show (0 : Int) ≤ 0; omega, by show (0 : Int) ≤ 50; omega⟩, by show (⟨#[]⟩ : ByteArray).size ≤ 60; decide⟩
theorem fd_self {x : ByteArray} (h : x.size = 32) : ¬ fd x x < 256 := fun e => ((fd_ne h h).1 e) rfl
theorem exV_le {n k z : Nat} {t : Bool} (h : ¬ 0 < exV n k t z) : n ≤ 49 ∧ z ≤ 60 ∧ (t = false → k ≤ 39) := by
  unfold exV at h
  cases t with
  | true => rw [if_pos rfl] at h; refine ⟨by omega, by omega, fun e => by cases e⟩
  | false => rw [if_neg (by simp)] at h; refine ⟨by omega, by omega, fun _ => by omega⟩
theorem put_lvN {o : Option Tr} {key val : ByteArray} (ho : OkO o) (hs : SepO o) (hk : okK key = true) (h : getV o key = none → lvO o ≤ 39) : (putO o key val).lvN ≤ 40 := by
  have hks := okK_iff.1 hk
  cases o with
  | none => show 1 ≤ 40; omega
  | some t =>
    have h2 := putT_lvN (kh key) (putAt t key) key val (fd_le _ _) t ho
    have h3 := hs.2
    show (putT (kh key) (putAt t key) key val t).lvN ≤ 40
    rw [h2]
    split
    · rename_i hlt
      have : getV (some t) key = none := by
        unfold getV
        dsimp only
        rw [if_neg (fun e => ?_)]
        unfold putAt at hlt
        rw [e] at hlt
        exact fd_self (kh_size (by omega)) hlt
      have := h this
      have e : lvO (some t) = t.lvN := rfl
      omega
    · omega
theorem ch_ok {x : Lst} (h : LOK x) {c : Cm} (hc : cmK c = true) (h4 : c.kd ≠ 4) (h5 : c.kd ≠ 5) : LOK ⟨(chOut x.ls x.o c (getV x.o c.ky)).1, (chOut x.ls x.o c (getV x.o c.ky)).2.1, x.ss⟩ ∧ ReOK (chOut x.ls x.o c (getV x.o c.ky)).2.2 := by
  obtain ⟨k1, k2, k3, k4, k5⟩ := cmK_key hc h4 h5
  have hks := okK_iff.1 k1
  unfold chOut
  split
  · exact ⟨⟨h.n, h.h, h.ok, h.ri, h.sp, h.m, h.rs, h.sb⟩, reOK_of 2 (by omega) (by omega)⟩
  · split
    · exact ⟨⟨h.n, h.h, h.ok, h.ri, h.sp, h.m, h.rs, h.sb⟩, reOK_of 6 (by omega) (by omega)⟩
    · rename_i h1 h2
      obtain ⟨e1, e2, e3⟩ := exV_le h2
      have hv : TrOK (.leaf c.ky (vbV c.kd c.vl ((getV x.o c.ky).getD ⟨#[]⟩))) := ⟨k1, e2⟩
      have hls : ∀ s ∈ x.ls ++ [leafC c], s.size = 32 := fun s hs => by
        rcases List.mem_append.1 hs with hs | hs
        · exact h.h s hs
        · rw [List.mem_singleton.1 hs]; exact leafC_size hks.2 k2
      have hn : (x.ls ++ [leafC c]).length ≤ 50 := by simp; omega
      have hr : ReOK ⟨1, (x.ls.length : Int) + 1, vbV c.kd c.vl ((getV x.o c.ky).getD ⟨#[]⟩)⟩ := ⟨⟨by show (0 : Int) ≤ 1; omega, by show (1 : Int) ≤ 6; omega⟩, ⟨by show (0 : Int) ≤ (x.ls.length : Int) + 1; omega, by show (x.ls.length : Int) + 1 ≤ 50; omega⟩, e2⟩
      refine ⟨?_, hr⟩
      dsimp only
      split
      · have hd : OkO (dropO (kh c.ky) x.o) ∧ RiseO (dropO (kh c.ky) x.o) ∧ SepO (dropO (kh c.ky) x.o) := by
          have o1 := h.ok; have o2 := h.ri; have o3 := h.sp
          cases hx : x.o with
          | none => exact ⟨trivial, trivial, trivial⟩
          | some t =>
            rw [hx] at o1 o2 o3
            have f1 := dropT_ok (kh c.ky) t o1
            have f2 := dropT_facts (kh c.ky) t 0 o2 o3.1
            have f3 := dropT_lvN (kh c.ky) t
            have f4 := o3.2
            show OkO (dropT (kh c.ky) t) ∧ RiseO (dropT (kh c.ky) t) ∧ SepO (dropT (kh c.ky) t)
            cases hd : dropT (kh c.ky) t with
            | none => exact ⟨trivial, trivial, trivial⟩
            | some t' =>
              rw [hd] at f1 f2 f3
              exact ⟨f1, f2.1, f2.2.1, Nat.le_trans f3 f4⟩
        exact ⟨hn, hls, hd.1, hd.2.1, hd.2.2, h.m, h.rs, h.sb⟩
      · have f1 := putO_rise c.ky (vbV c.kd c.vl ((getV x.o c.ky).getD ⟨#[]⟩)) h.ri h.sp
        exact ⟨hn, hls, mpT_ok h.ok hv, f1.1, ⟨f1.2, put_lvN h.ok h.sp k1 (fun e => e3 (by rw [e]; rfl))⟩, h.m, h.rs, h.sb⟩
theorem ap_ok {x : Lst} (h : LOK x) {c : Cm} (hc : cmK c = true) : LOK (apOut x c).1 ∧ ReOK (apOut x c).2 := by
  have hses := cmK_ses hc
  unfold apOut
  split
  · split
    · exact ⟨h, reOK_of 5 (by omega) (by omega)⟩
    · split
      · exact ⟨h, reOK_of 6 (by omega) (by omega)⟩
      · rename_i h1 h2 h3
        have hp := pos_is (id := c.ss) h.rs
        refine ⟨⟨h.n, h.h, h.ok, h.ri, h.sp, ?_, ins_rise h.rs (by simpa using h2), ?_⟩, reOK_of 1 (by omega) (by omega)⟩
        · show (insS _ _ _).length ≤ 8
          rw [insS_len _ _ _ hp.le]; have := h.m; omega
        · intro s hs
          show (0 ≤ s.id ∧ s.id ≤ 65535) ∧ _
          rcases List.mem_append.1 hs with hs | hs
          · exact h.sb s (List.mem_of_mem_take hs)
          · rcases List.mem_cons.1 hs with rfl | hs
            · exact ⟨hses, ⟨by show (0:Int) ≤ 0; omega, by show (0:Int) ≤ 65535; omega⟩, ⟨by show (0:Int) ≤ 0; omega, by show (0:Int) ≤ 6; omega⟩, ⟨by show (0:Int) ≤ 0; omega, by show (0:Int) ≤ 50; omega⟩, by show (⟨#[]⟩ : ByteArray).size ≤ 60; decide⟩
            · exact h.sb s (List.mem_of_mem_drop hs)
  · split
    · exact ⟨h, reOK_of 4 (by omega) (by omega)⟩
    · rename_i h1 h2
      have hh : hasS x.ss c.ss = true := by simpa using h2
      obtain ⟨p1, p2⟩ := has_iff.1 hh
      split
      · refine ⟨⟨h.n, h.h, h.ok, h.ri, h.sp, ?_, del_rise h.rs p1, ?_⟩, reOK_of 1 (by omega) (by omega)⟩
        · show (delS _ _).length ≤ 8
          rw [delS_len _ _ p1]; have := h.m; omega
        · intro s hs
          rcases List.mem_append.1 hs with hs | hs
          · exact h.sb s (List.mem_of_mem_take hs)
          · exact h.sb s (List.mem_of_mem_drop hs)
      · rename_i h5
        obtain ⟨k1, k2, k3, k4, k5⟩ := cmK_key hc h1 h5
        obtain ⟨s1, s2, s3, s4, s5⟩ := h.sb _ (getD_mem p1)
        unfold svOut
        split
        · exact ⟨h, s3, s4, s5⟩
        · split
          · exact ⟨h, reOK_of 3 (by omega) (by omega)⟩
          · obtain ⟨g, gr⟩ := ch_ok h hc h1 h5
            refine ⟨⟨g.n, g.h, g.ok, g.ri, g.sp, by simp; exact h.m, set_rise h.rs p1 rfl, ?_⟩, gr⟩
            intro s hs
            rcases List.mem_or_eq_of_mem_set hs with hs | rfl
            · exact h.sb s hs
            · exact ⟨s1, k3, gr.1, gr.2.1, gr.2.2⟩
end Go.Proofs.YtnhhnjmjodmacaaGreatDoor.Sha
namespace Go.Proofs.YtnhhnjmjodmacaaGreatDoor
open Go.ChangeShapes Go.WideShapes Go.ChangeAt Go.RowKit
set_option linter.unusedVariables false
theorem sesC_one (l : List Se) : ∀ u ∈ sesC l, u.oneCell' = true := by
  intro u hu
  simp only [sesC, List.mem_flatMap] at hu
  obtain ⟨f, _, hf⟩ := hu
  simp only [seC, List.mem_cons, List.not_mem_nil, or_false] at hf
  rcases hf with rfl | rfl | rfl | rfl | rfl <;> rfl
theorem Sess.rw {w : World} {v : Value} {l : List Se} (h : Sess w v l) : Rw w v l.length (sesC l) := by
  obtain ⟨a, cap, rfl, hn, hm, hc⟩ := h
  refine ⟨a, cap, rfl, ?_⟩
  rcases hc with h0 | ⟨b, off, rfl, hlt, hc⟩
  · exact .inl h0
  refine .inr ⟨_, rfl, fun j u hu => ?_⟩
  have hadd : (⟨b, off, none⟩ : Addr).add j = ⟨b, off + j, none⟩ := by unfold Addr.add; split <;> simp_all
  have hj : j < l.length * 5 := by
    have := (List.getElem?_eq_some_iff.1 hu).1
    rwa [sesC_len] at this
  obtain ⟨g0, g1, g2, g3, g4⟩ := sesC_get l (j / 5) (by omega)
  obtain ⟨c0, c1, c2, c3, c4⟩ := hc (j / 5) (by omega)
  rw [hadd]
  rcases (show j % 5 = 0 ∨ j % 5 = 1 ∨ j % 5 = 2 ∨ j % 5 = 3 ∨ j % 5 = 4 by omega) with e | e | e | e | e
  · rw [show j / 5 * 5 = j by omega] at g0 c0
    rw [c0, ← g0, hu]
  · rw [show j / 5 * 5 + 1 = j by omega] at g1
    rw [show off + j / 5 * 5 + 1 = off + j by omega] at c1
    rw [c1, ← g1, hu]
  · rw [show j / 5 * 5 + 2 = j by omega] at g2
    rw [show off + j / 5 * 5 + 2 = off + j by omega] at c2
    rw [c2, ← g2, hu]
  · rw [show j / 5 * 5 + 3 = j by omega] at g3
    rw [show off + j / 5 * 5 + 3 = off + j by omega] at c3
    rw [c3, ← g3, hu]
  · rw [show j / 5 * 5 + 4 = j by omega] at g4
    rw [show off + j / 5 * 5 + 4 = off + j by omega] at c4
    rw [c4, ← g4, hu]
end Go.Proofs.YtnhhnjmjodmacaaGreatDoor
