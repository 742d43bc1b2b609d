/- Frames one behind the other: read back, cut off, and with a byte changed, in plain terms. -/
import Derived.Test.YtjkmnnjagcabdaaFrP
namespace Go.Proofs.Ytjkmnnjagcabdaa
open Go.ChangeShapes Go.WideShapes Go.ChangeAt Go.RowKit fnExactCheck32
set_option linter.unusedVariables false
theorem bit31_lt {n : Nat} (h : n < 2147483648) : n.testBit 31 = false := Nat.testBit_lt_two_pow (by simpa using h)
theorem halve_inj {a b : Nat} (ha : a < 4294967296) (hb : b < 4294967296) (h : halve a = halve b) : a = b := by
  have hP : Nat.testBit 3988292384 31 = true := by decide
  have top : ∀ x y : Nat, x < 2147483648 → y < 2147483648 → x ^^^ 3988292384 ≠ y := fun x y hx hy e => by
    have := congrArg (fun n => Nat.testBit n 31) e
    simp only [Nat.testBit_xor, hP, bit31_lt hx, bit31_lt hy] at this
    simp at this
  unfold halve at h
  split at h <;> split at h
  · have e : a / 2 = b / 2 := by
      have := congrArg (fun n => n ^^^ 3988292384) h
      simpa [Nat.xor_assoc] using this
    omega
  · exact absurd h (top _ _ (by omega) (by omega))
  · exact absurd h.symm (top _ _ (by omega) (by omega))
  · omega
theorem halves_inj {m a b : Nat} (ha : a < 4294967296) (hb : b < 4294967296) (h : halves m a = halves m b) : a = b := by
  induction m with
  | zero => exact h
  | succ m ih => exact ih (halve_inj (halves_lt ha m) (halves_lt hb m) h)
theorem xor_cancel {a b c : Nat} (h : a ^^^ c = b ^^^ c) : a = b := by
  have := congrArg (fun n => n ^^^ c) h
  simpa [Nat.xor_assoc] using this
theorem crc_ne {L L' : List Int} (hr : ∀ i, 0 ≤ L.getD i 0 ∧ L.getD i 0 ≤ 255) (hr' : ∀ i, 0 ≤ L'.getD i 0 ∧ L'.getD i 0 ≤ 255) {i : Nat} (hs : ∀ j, j ≠ i → L.getD j 0 = L'.getD j 0) (hd : L.getD i 0 ≠ L'.getD i 0) (n : Nat) (hn : i < n) : crc L n ≠ crc L' n := by
  have heq : ∀ k, k ≤ i → crc L k = crc L' k := by
    intro k
    induction k with
    | zero => intro _; rfl
    | succ k ih => intro hk; show halves 8 _ = halves 8 _; rw [ih (by omega), hs k (by omega)]
  induction n with
  | zero => omega
  | succ n ih =>
    intro e
    have e2 := halves_inj (xor_lt (crc_lt L hr n) (hr n).1 (hr n).2) (xor_lt (crc_lt L' hr' n) (hr' n).1 (hr' n).2) e
    by_cases hni : n = i
    · subst hni
      rw [heq n (Nat.le_refl _), Nat.xor_comm, Nat.xor_comm (crc L' n)] at e2
      have := xor_cancel e2
      have h1 := hr n
      have h2 := hr' n
      omega
    · rw [hs n hni] at e2
      exact ih (by omega) (xor_cancel e2)
theorem sumF_ne {d d' : List Int} (hl : d.length = d'.length) (h200 : d.length ≤ 200) (hr : ∀ i, 0 ≤ d.getD i 0 ∧ d.getD i 0 ≤ 255) (hr' : ∀ i, 0 ≤ d'.getD i 0 ∧ d'.getD i 0 ≤ 255) {i : Nat} (hi : i < d.length) (hs : ∀ j, j ≠ i → d.getD j 0 = d'.getD j 0) (hd : d.getD i 0 ≠ d'.getD i 0) : sumF d ≠ sumF d' := by
  have e2 : ∀ l : List Int, encN (l.length : Int) 2 ++ l = ((l.length : Int) / 256 % 256) :: ((l.length : Int) % 256) :: l := fun l => by simp [encN]
  have g : ∀ (a b : Int) (l : List Int) (j : Nat), (a :: b :: l).getD (j + 2) 0 = l.getD j 0 := fun a b l j => by simp
  have hne := crc_ne (L := encN (d.length : Int) 2 ++ d) (L' := encN (d'.length : Int) 2 ++ d') (range_append (encN_range _ _) hr) (range_append (encN_range _ _) hr') (i := i + 2) (fun j hj => by
    rw [e2, e2, hl]
    match j with
    | 0 => rfl
    | 1 => rfl
    | j + 2 => rw [g, g]; exact hs j (by omega)) (by rw [e2, e2, g, g]; exact hd) (2 + d.length) (by omega)
  intro e
  unfold sumF crcV at e
  have l1 : (encN (d.length : Int) 2 ++ d).length = 2 + d.length := by rw [List.length_append, encN_len]
  have l2 : (encN (d'.length : Int) 2 ++ d').length = 2 + d.length := by rw [List.length_append, encN_len]; omega
  rw [l1, l2, if_neg (by omega), if_neg (by omega)] at e
  have e3 : crc (encN (d.length : Int) 2 ++ d) (2 + d.length) ^^^ 4294967295 = crc (encN (d'.length : Int) 2 ++ d') (2 + d.length) ^^^ 4294967295 := by exact_mod_cast e
  exact hne (xor_cancel e3)
theorem frameL_cons (d : List Int) : frameL d = ((d.length : Int) / 256 % 256) :: ((d.length : Int) % 256) :: (sumF d / 16777216 % 256) :: (sumF d / 65536 % 256) :: (sumF d / 256 % 256) :: (sumF d % 256) :: d := by
  simp [frameL, encN]
theorem frameL_len (d : List Int) : (frameL d).length = 6 + d.length := by rw [frameL_cons]; simp; omega
/-- What six bytes and data are read as. -/
theorem frStep_six (a b c0 c1 c2 c3 : Int) (d rest : List Int) (h1 : 1 ≤ d.length) (h2 : d.length ≤ 200) (hn : a * 256 + b = (d.length : Int)) :
    frStep (a :: b :: c0 :: c1 :: c2 :: c3 :: d ++ rest) = if sumF d = ((c0 * 256 + c1) * 256 + c2) * 256 + c3 then (0, d) else (8, []) := by
  unfold frStep
  have hl : (a :: b :: c0 :: c1 :: c2 :: c3 :: d ++ rest).length = 6 + d.length + rest.length := by simp; omega
  have t2 : (a :: b :: c0 :: c1 :: c2 :: c3 :: d ++ rest).take 2 = [a, b] := by simp
  have t4 : ((a :: b :: c0 :: c1 :: c2 :: c3 :: d ++ rest).drop 2).take 4 = [c0, c1, c2, c3] := by simp
  have t6 : (a :: b :: c0 :: c1 :: c2 :: c3 :: d ++ rest).drop 6 = d ++ rest := by simp
  have td : (d ++ rest).take d.length = d := by simp
  rw [hl, if_neg (by omega), t2, dec2, hn, if_neg (by rw [Bool.not_eq_false, inB_iff]; omega), Int.toNat_natCast, if_neg (by omega), t6, t4, dec4, td]
theorem frStep_frame (d rest : List Int) (h1 : 1 ≤ d.length) (h2 : d.length ≤ 200) (hr : ∀ i, 0 ≤ d.getD i 0 ∧ d.getD i 0 ≤ 255) : frStep (frameL d ++ rest) = (0, d) := by
  have hs := sumF_range d hr
  rw [frameL_cons, frStep_six _ _ _ _ _ _ d rest h1 h2 (by omega), if_pos (by omega)]
theorem frStep_cut (d : List Int) (c : Nat) (h1 : 1 ≤ d.length) (h2 : d.length ≤ 200) (hc : c < 6 + d.length) : frStep ((frameL d).take c) = (16, []) := by
  have hl : ((frameL d).take c).length = c := by rw [List.length_take, frameL_len]; omega
  unfold frStep
  rw [hl]
  by_cases h6 : c < 6
  · rw [if_pos h6]
  · have t2 : ((frameL d).take c).take 2 = [(d.length : Int) / 256 % 256, (d.length : Int) % 256] := by
      rw [List.take_take, show min 2 c = 2 by omega, frameL_cons]; simp
    rw [if_neg h6, t2, dec2, show (d.length : Int) / 256 % 256 * 256 + (d.length : Int) % 256 = (d.length : Int) by omega, if_neg (by rw [Bool.not_eq_false, inB_iff]; omega), Int.toNat_natCast, if_pos (by omega)]
theorem frStep_bad (d rest : List Int) (q : Nat) (y : Int) (h1 : 1 ≤ d.length) (h2 : d.length ≤ 200) (hr : ∀ i, 0 ≤ d.getD i 0 ∧ d.getD i 0 ≤ 255) (hq : 2 ≤ q) (hq2 : q < 6 + d.length) (hy0 : 0 ≤ y) (hy1 : y ≤ 255) (hne : (frameL d).getD q 0 ≠ y) :
    frStep ((frameL d).set q y ++ rest) = (8, []) := by
  have hs := sumF_range d hr
  rw [frameL_cons] at hne ⊢
  match q, hq, hq2, hne with
  | 2, _, _, hne =>
    simp only [List.getD_cons_succ, List.getD_cons_zero] at hne
    show frStep (_ :: _ :: y :: _ :: _ :: _ :: d ++ rest) = _
    rw [frStep_six _ _ _ _ _ _ d rest h1 h2 (by omega), if_neg (by omega)]
  | 3, _, _, hne =>
    simp only [List.getD_cons_succ, List.getD_cons_zero] at hne
    show frStep (_ :: _ :: _ :: y :: _ :: _ :: d ++ rest) = _
    rw [frStep_six _ _ _ _ _ _ d rest h1 h2 (by omega), if_neg (by omega)]
  | 4, _, _, hne =>
    simp only [List.getD_cons_succ, List.getD_cons_zero] at hne
    show frStep (_ :: _ :: _ :: _ :: y :: _ :: d ++ rest) = _
    rw [frStep_six _ _ _ _ _ _ d rest h1 h2 (by omega), if_neg (by omega)]
  | 5, _, _, hne =>
    simp only [List.getD_cons_succ, List.getD_cons_zero] at hne
    show frStep (_ :: _ :: _ :: _ :: _ :: y :: d ++ rest) = _
    rw [frStep_six _ _ _ _ _ _ d rest h1 h2 (by omega), if_neg (by omega)]
  | i + 6, _, hi, hne =>
    simp only [List.getD_cons_succ] at hne
    show frStep (_ :: _ :: _ :: _ :: _ :: _ :: (d.set i y) ++ rest) = _
    have hi2 : i < d.length := by omega
    have hgs : ∀ j, (d.set i y).getD j 0 = if i = j then y else d.getD j 0 := fun j => by
      rw [List.getD_eq_getElem?_getD, List.getElem?_set, List.getD_eq_getElem?_getD]
      by_cases e : i = j
      · rw [if_pos e, if_pos e, if_pos (by omega)]; rfl
      · rw [if_neg e, if_neg e]
    have hsn := sumF_ne (d := d) (d' := d.set i y) (by simp) h2 hr (fun j => by rw [hgs]; split; omega; exact hr j) hi2 (fun j hj => by rw [hgs, if_neg (fun e => hj e.symm)]) (by rw [hgs, if_pos rfl]; exact hne)
    rw [frStep_six _ _ _ _ _ _ (d.set i y) rest (by simpa using h1) (by simpa using h2) (by simp; omega), if_neg (by omega)]
def flat (ds : List (List Int)) : List Int := ds.flatMap frameL
/-- Data that a frame may hold. -/
def Good (d : List Int) : Prop := 1 ≤ d.length ∧ d.length ≤ 200 ∧ ∀ i, 0 ≤ d.getD i 0 ∧ d.getD i 0 ≤ 255
theorem flat_snoc (ds : List (List Int)) (d : List Int) : flat (ds ++ [d]) = flat ds ++ frameL d := by simp [flat]
theorem fr_prefix_aux : ∀ (ds2 ds1 : List (List Int)) (rest : List Int), (∀ d ∈ ds2, Good d) → FrAt (flat ds1 ++ (flat ds2 ++ rest)) (flat ds1).length ds1 → FrAt (flat (ds1 ++ ds2) ++ rest) (flat (ds1 ++ ds2)).length (ds1 ++ ds2)
  | [], ds1, rest, _, h => by simpa [flat] using h
  | d :: t, ds1, rest, hg, h => by
    have hd := hg d (by simp)
    have hdr : (flat ds1 ++ (flat (d :: t) ++ rest)).drop (flat ds1).length = frameL d ++ (flat t ++ rest) := by simp [flat]
    have hn := h.next (d := d) (by simp [flat, frameL_len]; omega) (by rw [hdr]; exact frStep_frame d _ hd.1 hd.2.1 hd.2.2)
    have e1 : flat ds1 ++ (flat (d :: t) ++ rest) = flat (ds1 ++ [d]) ++ (flat t ++ rest) := by simp [flat]
    have e2 : (flat ds1).length + 6 + d.length = (flat (ds1 ++ [d])).length := by rw [flat_snoc, List.length_append, frameL_len]; omega
    rw [e1, e2] at hn
    have := fr_prefix_aux t (ds1 ++ [d]) rest (fun x hx => hg x (by simp [hx])) hn
    rw [List.append_assoc] at this
    exact this
theorem fr_prefix (ds : List (List Int)) (hg : ∀ d ∈ ds, Good d) (rest : List Int) : FrAt (flat ds ++ rest) (flat ds).length ds :=
  fr_prefix_aux ds [] rest hg (FrAt.zero _)
theorem fr_all (ds : List (List Int)) (hg : ∀ d ∈ ds, Good d) : frP (flat ds) 0 = (ds, (flat ds).length, 0) := by
  have h := fr_prefix ds hg []
  rw [List.append_nil] at h
  exact h.done (by omega)
theorem fr_cut (ds : List (List Int)) (d : List Int) (c : Nat) (hg : ∀ x ∈ ds, Good x) (hd : Good d) (hc : c < 6 + d.length) : frP (flat ds ++ (frameL d).take c) 0 = (ds, (flat ds).length, if c = 0 then 0 else 16) := by
  have h := fr_prefix ds hg ((frameL d).take c)
  by_cases h0 : c = 0
  · subst h0
    rw [List.take_zero] at h ⊢
    rw [h.done (by simp)]; rfl
  · have hl : ((frameL d).take c).length = c := by rw [List.length_take, frameL_len]; omega
    have hdr : (flat ds ++ (frameL d).take c).drop (flat ds).length = (frameL d).take c := by simp
    rw [h.stop (by rw [List.length_append, hl]; omega) (by rw [hdr, frStep_cut d c hd.1 hd.2.1 hc]; decide), hdr, frStep_cut d c hd.1 hd.2.1 hc, if_neg h0]
theorem fr_bad (ds : List (List Int)) (d rest : List Int) (q : Nat) (y : Int) (hg : ∀ x ∈ ds, Good x) (hd : Good d) (hq : 2 ≤ q) (hq2 : q < 6 + d.length) (hy0 : 0 ≤ y) (hy1 : y ≤ 255) (hne : (frameL d).getD q 0 ≠ y) : frP (flat ds ++ ((frameL d).set q y ++ rest)) 0 = (ds, (flat ds).length, 8) := by
  have h := fr_prefix ds hg ((frameL d).set q y ++ rest)
  have hdr : (flat ds ++ ((frameL d).set q y ++ rest)).drop (flat ds).length = (frameL d).set q y ++ rest := by simp
  have hb := frStep_bad d rest q y hd.1 hd.2.1 hd.2.2 hq hq2 hy0 hy1 hne
  rw [h.stop (by simp [frameL_len]; omega) (by rw [hdr, hb]; decide), hdr, hb]
end Go.Proofs.Ytjkmnnjagcabdaa
