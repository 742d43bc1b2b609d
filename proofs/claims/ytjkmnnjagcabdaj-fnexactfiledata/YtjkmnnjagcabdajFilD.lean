/- impl.FileData, spec.l03Find, spec.FileData, walked. -/
import Derived.Test.YtjkmnnjagcabdajFilP
namespace Go.Proofs.Ytjkmnnjagcabdaj
open Go.ChangeShapes Go.WideShapes Go.ChangeAt Go.RowKit
set_option linter.unusedVariables false

/-- Whether file i has this name. -/
def isN (l : List Fl) (name : ByteArray) (i : Nat) : Bool := (l.getD i default).n.toList == name.toList
/-- The first file of this name from place k on. -/
def findP (l : List Fl) (name : ByteArray) (k : Nat) : Option Nat :=
  if h : k < l.length then (if isN l name k then some k else findP l name (k + 1)) else none
termination_by l.length - k
theorem findP_hit {l : List Fl} {name : ByteArray} {k : Nat} (hk : k < l.length) (h : isN l name k = true) : findP l name k = some k := by rw [findP, dif_pos hk, if_pos h]
theorem findP_next {l : List Fl} {name : ByteArray} {k : Nat} (hk : k < l.length) (h : isN l name k = false) : findP l name k = findP l name (k + 1) := by rw [findP, dif_pos hk, if_neg (by simp [h])]
theorem findP_end {l : List Fl} {name : ByteArray} {k : Nat} (hk : ¬ k < l.length) : findP l name k = none := by rw [findP, dif_neg hk]
theorem findP_lt (l : List Fl) (name : ByteArray) : ∀ n k, l.length - k = n → ∀ j, findP l name k = some j → j < l.length := by
  intro n
  induction n with
  | zero => intro k hk j hj; rw [findP_end (by omega)] at hj; cases hj
  | succ n ih =>
    intro k hk j hj
    rw [findP, dif_pos (by omega)] at hj
    split at hj
    · cases hj; omega
    · exact ih (k + 1) (by omega) j hj
def fdK (l : List Fl) : Option Nat → ByteArray × Int
  | some j => ((l.getD j default).d, 0)
  | none => (⟨#[]⟩, 5)
def fdOut (room : Int) (l : List Fl) (name : ByteArray) : ByteArray × Int :=
  if 65536 < name.size then (⟨#[]⟩, 2) else if diskB room l then fdK l (findP l name 0) else (⟨#[]⟩, 1)
theorem ret_si {a b : ByteArray} {c d : Int} (h : a = b) (k : c = d) : Ending.returned (.tuple #[.string a, .int .i64 c]) = .returned (.tuple #[.string b, .int .i64 d]) := by rw [h, k]

set_option maxRecDepth 100000 in
set_option maxHeartbeats 1000000 in
theorem implFileData_any (room : Int) (v : Value) (l : List Fl) (name : ByteArray) (w : World) (h : Fls w v l) (hs : Small l) (hnm : name.size ≤ maxLen) :
    Calls Try.prog 12 #[.agg #[.int .i64 room, v], .string name] w fun e w' => e = .returned (.tuple #[.string (fdOut room l name).1, .int .i64 (fdOut room l name).2]) ∧ Below w.heap.size w w' := by
  have HF := hide h
  obtain ⟨a, cap, rfl, hn, hm, hc⟩ := h
  have HS := hide hs
  have HC := hide hc
  have hsl := hs.1
  clear hc hs hm hn
  unfold maxLen at hnm
  have B0 := hide ((Below.refl w.heap.size w).alloc (Nat.le_refl _) (.cells #[.int .i64 room, .slice a l.length cap] 29))
  have X0 := hide (Blk.new w #[.int .i64 room, .slice a l.length cap] 29 w.heap.size rfl)
  by_cases hlong : 65536 < name.size
  · have HU : Hid (fdOut room l name = (⟨#[]⟩, 2)) := hide (by unfold fdOut; rw [if_pos hlong])
    have hl2 : (65536 : Int) < (name.size : Int) := by omega
    go_enter Try.func12, Try.ntmps12
    go_wp2_with fail
    go_ret2
    exact ⟨ret_si (by rw [unhide HU]) (by rw [unhide HU]), unhide B0⟩
  have HU : Hid (fdOut room l name = if diskB room l then fdK l (findP l name 0) else (⟨#[]⟩, 1)) := hide (by unfold fdOut; rw [if_neg hlong])
  have hl2 : ¬ (65536 : Int) < (name.size : Int) := by omega
  go_enter Try.func12, Try.ntmps12
  go_wp2_with fail
  generalize w.alloc (.cells #[.int .i64 room, .slice a l.length cap] 29) = w0 at *
  refine (implDiskOK_any room _ l w0 ((unhide HF).below (unhide B0)) (unhide HS)).mono ?_
  rintro e w1 ⟨rfl, hb1⟩
  have K1 := hide ((unhide B0).trans (hb1.mono (unhide B0).size))
  have X1 := (unhide X0).below hb1
  have x0 := X1.cell 0 rfl
  have x1 := X1.cell 1 rfl
  clear hb1 X1
  cases hd : diskB room l
  · rw [hd, if_neg (by simp)] at HU
    go_wp2_with fail
    go_ret2
    exact ⟨ret_si (by rw [unhide HU]) (by rw [unhide HU]), unhide K1⟩
  · rw [hd, if_pos rfl] at HU
    go_wp2_with fail
    obtain ⟨lp, hlp⟩ : ∃ lp, lp = findP l name 0 := ⟨_, rfl⟩
    rw [← hlp] at HU
    have HLP := hide hlp
    clear hlp
    go_loopw [17] (fun i wr => ∃ k : Nat, k ≤ l.length ∧ i = .int .i64 k ∧ lp = findP l name k ∧ Below w.heap.size w wr) (fun i _ => l.length - (intOf i).toNat)
    case atStart => exact ⟨0, Nat.zero_le _, rfl, unhide HLP, unhide K1⟩
    case round =>
      obtain ⟨k, hk, rfl, hfi, hb⟩ := hrel
      by_cases hlt : k < l.length
      · obtain ⟨b, off, rfl, hbl, hsrc⟩ : ∃ b off, a = some ⟨b, off, none⟩ ∧ b < w.heap.size ∧ ∀ i, i < l.length → w.cell? ⟨b, off + i * 3, none⟩ = some (.string (l.getD i default).n) ∧ w.cell? ⟨b, off + i * 3 + 1, none⟩ = some (.string (l.getD i default).d) ∧ w.cell? ⟨b, off + i * 3 + 2, none⟩ = some (.int .i64 (l.getD i default).s) := by
          rcases unhide HC with h0 | h1
          · omega
          · exact h1
        obtain ⟨s0, s1, s2⟩ := hsrc k hlt
        have c0 := (hb.cell (p := ⟨b, off + k * 3, none⟩) hbl).trans s0
        have c1 := (hb.cell (p := ⟨b, off + k * 3 + 1, none⟩) hbl).trans s1
        have c2 := (hb.cell (p := ⟨b, off + k * 3 + 2, none⟩) hbl).trans s2
        have hk0 : (0 : Int) ≤ (k : Int) := by omega
        have hk1 : (k : Int) < (l.length : Int) := by omega
        have hbs := hb.size
        have HB := hide hb
        have HFI := hide hfi
        have hIs : isN l name k = ((l.getD k default).n.toList == name.toList) := rfl
        have HFK : Hid (fdK l (some k) = ((l.getD k default).d, 0)) := rfl
        clear hsrc s0 s1 s2 hb hfi
        generalize l.getD k default = f at *
        obtain ⟨fn, fd, fs⟩ := f
        dsimp only at c0 c1 c2 hIs HFK
        have HB2 := hide ((unhide HB).alloc (by omega) (.cells #[.string fn, .string fd, .int .i64 fs] 41))
        rcases Bool.eq_false_or_eq_true (fn.toList == name.toList) with hq | hq
        · rw [hq] at hIs
          have HE := hide (show fdOut room l name = (fd, 0) by rw [unhide HU, unhide HFI, findP_hit hlt hIs, unhide HFK])
          have hq2 : fn.toList = name.toList := by simpa using hq
          clear hIs
          go_wp2_with fail
          all_goals try (exfalso; exact absurd hq2 (by assumption))
          go_ret2
          exact ⟨ret_si (by rw [unhide HE]) (by rw [unhide HE]), unhide HB2⟩
        · rw [hq] at hIs
          have HN := hide ((unhide HFI).trans (findP_next hlt hIs))
          clear hIs
          go_wp2_with fail
          refine ⟨⟨k + 1, by omega, by go_num, unhide HN, unhide HB2⟩, ?_⟩
          simp [intOf]; omega
      · have HE := hide (show fdOut room l name = (⟨#[]⟩, 5) by rw [unhide HU, hfi, findP_end hlt]; rfl)
        have R := hide hb
        have hk1 : ¬ (k : Int) < (l.length : Int) := by omega
        clear hb hfi
        go_wp2_with fail
        go_ret2
        exact ⟨ret_si (by rw [unhide HE]) (by rw [unhide HE]), unhide R⟩

def findI (o : Option Nat) : Int := match o with | some j => (j : Int) | none => -1
set_option maxRecDepth 100000 in
set_option maxHeartbeats 1000000 in
theorem l03Find_any (room : Int) (v : Value) (l : List Fl) (name : ByteArray) (w : World) (h : Fls w v l) (hl : l.length ≤ 1048576) :
    Calls Try.prog 24 #[.agg #[.int .i64 room, v], .string name] w fun e w' => e = .returned (.int .i64 (findI (findP l name 0))) ∧ Below w.heap.size w w' := by
  obtain ⟨a, cap, rfl, hn, hm, hc⟩ := h
  have HC := hide hc
  clear hc hm hn
  have B0 := hide ((Below.refl w.heap.size w).alloc (Nat.le_refl _) (.cells #[.int .i64 room, .slice a l.length cap] 29))
  have X0 := hide (Blk.new w #[.int .i64 room, .slice a l.length cap] 29 w.heap.size rfl)
  obtain ⟨lp, hlp⟩ : ∃ lp, lp = findP l name 0 := ⟨_, rfl⟩
  rw [← hlp]
  have HLP := hide hlp
  clear hlp
  go_enter Try.func24, Try.ntmps24
  go_wp2_with fail
  generalize w.alloc (.cells #[.int .i64 room, .slice a l.length cap] 29) = w0 at *
  have x1 := (unhide X0).cell 1 rfl
  go_loop [5] (fun i => ∃ k : Nat, k ≤ l.length ∧ i = .int .i64 k ∧ lp = findP l name k) (fun i => l.length - (intOf i).toNat)
  case atStart => exact ⟨0, Nat.zero_le _, rfl, unhide HLP⟩
  case round =>
    obtain ⟨k, hk, rfl, hfi⟩ := hrel
    by_cases hlt : k < l.length
    · obtain ⟨b, off, rfl, hbl, hsrc⟩ : ∃ b off, a = some ⟨b, off, none⟩ ∧ b < w.heap.size ∧ ∀ i, i < l.length → w.cell? ⟨b, off + i * 3, none⟩ = some (.string (l.getD i default).n) ∧ w.cell? ⟨b, off + i * 3 + 1, none⟩ = some (.string (l.getD i default).d) ∧ w.cell? ⟨b, off + i * 3 + 2, none⟩ = some (.int .i64 (l.getD i default).s) := by
        rcases unhide HC with h0 | h1
        · omega
        · exact h1
      obtain ⟨s0, s1, s2⟩ := hsrc k hlt
      have c0 := ((unhide B0).cell (p := ⟨b, off + k * 3, none⟩) hbl).trans s0
      have hk0 : (0 : Int) ≤ (k : Int) := by omega
      have hk1 : (k : Int) < (l.length : Int) := by omega
      have HFI := hide hfi
      have hIs : isN l name k = ((l.getD k default).n.toList == name.toList) := rfl
      clear hsrc s0 s1 s2 hfi
      generalize l.getD k default = f at *
      obtain ⟨fn, fd, fs⟩ := f
      dsimp only at c0 hIs
      rcases Bool.eq_false_or_eq_true (fn.toList == name.toList) with hq | hq
      · rw [hq] at hIs
        have HE := hide (show findI lp = (k : Int) by rw [unhide HFI, findP_hit hlt hIs]; rfl)
        have hq2 : fn.toList = name.toList := by simpa using hq
        clear hIs
        go_wp2_with fail
        all_goals try (exfalso; exact absurd hq2 (by assumption))
        go_ret
        exact ⟨ret_int (unhide HE).symm, unhide B0⟩
      · rw [hq] at hIs
        have HN := hide ((unhide HFI).trans (findP_next hlt hIs))
        clear hIs
        go_wp2_with fail
        go_round
        case rel => exact ⟨k + 1, by omega, by go_num, unhide HN⟩
        case measure => simp [intOf]; omega
    · have HE := hide (show findI lp = -1 by rw [hfi, findP_end hlt]; rfl)
      have hk1 : ¬ (k : Int) < (l.length : Int) := by omega
      clear hfi
      go_wp2_with fail
      go_ret
      exact ⟨ret_int (unhide HE).symm, unhide B0⟩

set_option maxRecDepth 100000 in
set_option maxHeartbeats 1000000 in
theorem specFileData_any (room : Int) (v : Value) (l : List Fl) (name : ByteArray) (w : World) (h : Fls w v l) (hs : Small l) (hnm : name.size ≤ maxLen) :
    Calls Try.prog 11 #[.agg #[.int .i64 room, v], .string name] w fun e w' => e = .returned (.tuple #[.string (fdOut room l name).1, .int .i64 (fdOut room l name).2]) ∧ Below w.heap.size w w' := by
  have HF := hide h
  obtain ⟨a, cap, rfl, hn, hm, hc⟩ := h
  have HS := hide hs
  have HC := hide hc
  have hsl := hs.1
  clear hc hs hm hn
  unfold maxLen at hnm
  have B0 := hide ((Below.refl w.heap.size w).alloc (Nat.le_refl _) (.cells #[.int .i64 room, .slice a l.length cap] 29))
  have X0 := hide (Blk.new w #[.int .i64 room, .slice a l.length cap] 29 w.heap.size rfl)
  by_cases hlong : 65536 < name.size
  · have HU : Hid (fdOut room l name = (⟨#[]⟩, 2)) := hide (by unfold fdOut; rw [if_pos hlong])
    have hl2 : (65536 : Int) < (name.size : Int) := by omega
    go_enter Try.func11, Try.ntmps11
    go_wp2_with fail
    go_ret2
    exact ⟨ret_si (by rw [unhide HU]) (by rw [unhide HU]), unhide B0⟩
  have HU : Hid (fdOut room l name = if diskB room l then fdK l (findP l name 0) else (⟨#[]⟩, 1)) := hide (by unfold fdOut; rw [if_neg hlong])
  have hl2 : ¬ (65536 : Int) < (name.size : Int) := by omega
  go_enter Try.func11, Try.ntmps11
  go_wp2_with fail
  generalize w.alloc (.cells #[.int .i64 room, .slice a l.length cap] 29) = w0 at *
  refine (specDiskOK_any room _ l w0 ((unhide HF).below (unhide B0)) (unhide HS)).mono ?_
  rintro e w1 ⟨rfl, hb1⟩
  have K1 := hide ((unhide B0).trans (hb1.mono (unhide B0).size))
  have A1 := hide ((unhide HF).below (unhide K1))
  have X1 := (unhide X0).below hb1
  have x0 := X1.cell 0 rfl
  have x1 := X1.cell 1 rfl
  have HX1 := hide X1
  clear hb1 X1
  cases hd : diskB room l
  · rw [hd, if_neg (by simp)] at HU
    go_wp2_with fail
    go_ret2
    exact ⟨ret_si (by rw [unhide HU]) (by rw [unhide HU]), unhide K1⟩
  · rw [hd, if_pos rfl] at HU
    go_wp2_with fail
    refine (l03Find_any room _ l name w1 (unhide A1) hsl).mono ?_
    rintro e w2 ⟨rfl, hb2⟩
    have K2 := hide ((unhide K1).trans (hb2.mono (unhide K1).size))
    have X2 := (unhide HX1).below hb2
    have y0 := X2.cell 0 rfl
    have y1 := X2.cell 1 rfl
    clear hb2 X2 x0 x1
    have HLT := hide (findP_lt l name _ 0 rfl)
    obtain ⟨lp, hlp⟩ : ∃ lp, lp = findP l name 0 := ⟨_, rfl⟩
    rw [← hlp] at HU HLT ⊢
    clear hlp
    cases lp with
    | none =>
      have hI : findI none = -1 := rfl
      rw [hI]
      go_wp2_with fail
      go_ret2
      exact ⟨ret_si (by rw [unhide HU]; rfl) (by rw [unhide HU]; rfl), unhide K2⟩
    | some j =>
      have hI : findI (some j) = (j : Int) := rfl
      rw [hI]
      have hlt := unhide HLT j rfl
      obtain ⟨b, off, rfl, hbl, hsrc⟩ : ∃ b off, a = some ⟨b, off, none⟩ ∧ b < w.heap.size ∧ ∀ i, i < l.length → w.cell? ⟨b, off + i * 3, none⟩ = some (.string (l.getD i default).n) ∧ w.cell? ⟨b, off + i * 3 + 1, none⟩ = some (.string (l.getD i default).d) ∧ w.cell? ⟨b, off + i * 3 + 2, none⟩ = some (.int .i64 (l.getD i default).s) := by
        rcases unhide HC with h0 | h1
        · omega
        · exact h1
      have c1 := ((unhide K2).cell (p := ⟨b, off + j * 3 + 1, none⟩) hbl).trans (hsrc j hlt).2.1
      have HFK : Hid (fdK l (some j) = ((l.getD j default).d, 0)) := rfl
      rw [unhide HFK] at HU
      have hj0 : (0 : Int) ≤ (j : Int) := by omega
      have hj1 : (j : Int) < (l.length : Int) := by omega
      clear hsrc hI
      generalize l.getD j default = f at *
      obtain ⟨fn, fd, fs⟩ := f
      dsimp only at c1 HU
      go_wp2_with fail
      go_ret2
      exact ⟨ret_si (by rw [unhide HU]) (by rw [unhide HU]), unhide K2⟩
end Go.Proofs.Ytjkmnnjagcabdaj
