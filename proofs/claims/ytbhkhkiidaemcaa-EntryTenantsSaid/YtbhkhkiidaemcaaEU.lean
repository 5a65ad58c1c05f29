/-
  Contracts of the document's functions of package entry: which values are counts, volumes, roots and tenants. Condition: the value is 44 bytes in a block of its own.
-/
import Derived.Test.YtbhkhkiidaemcaaET
namespace Go.Proofs.Ytbhkhkiidaemcaa
open Go.RowKit octetPuts
theorem bytesC (v : Int) (n : Nat) (hn : n ≤ 8) (h0 : 0 ≤ v) (h1 : v ≤ 18446744073709551615) (w : World) : Calls Try.prog 19 #[.int .u64 v, .int .i64 n] w (OwnP w (be n v)) := by
  have R := Lib.hid (fun W => refBytes v n hn h0 h1 W)
  have L := Lib.hid (be_len n v)
  clear h0 h1
  go_enter Try.func19, Try.ntmps19
  go_wp2_with fail
  refine (R.out _).mono ?_
  rintro e w' ⟨x, c, rfl, ho, hb⟩
  go_wp2_with fail
  go_ret
  exact ⟨x, c, rfl, ho, hb⟩
/-- Are the n bytes from o on noughts? -/
def dz (xs : List Int) (o n : Nat) : Bool := decide (pt xs o n = zs n)
theorem dzC (g t o n : Nat) (xs : List Int) (hx : Byt xs) (hl : o + n ≤ xs.length) (hm : n ≤ 1000) (hn : n ≠ 0) (w : World) (hg : w.heap[g]? = some (.cells (bcells xs) t (0, 0))) :
    Calls Try.prog 43 #[.slice (some ⟨g, o, none⟩) n n] w fun e w' => e = .returned (.bool (dz xs o n)) ∧ w = w' := by
  have h := nought _ _ w (sees_part w g t xs hx hg o n n hl hn (Nat.le_refl _) (by unfold maxLen; omega))
  rw [part_len xs o n hl] at h
  exact h
theorem numC (g t o n : Nat) (xs : List Int) (hx : Byt xs) (hl : o + n ≤ xs.length) (hm : n ≤ 8) (hn : n ≠ 0) (c : Nat) (hc : n ≤ c) (hc9 : c ≤ 1000) (w : World) (hg : w.heap[g]? = some (.cells (bcells xs) t (0, 0))) :
    Calls Try.prog 24 #[.slice (some ⟨g, o, none⟩) n c] w fun e w' => e = .returned (.int .u64 (numI (pt xs o n))) ∧ w = w' :=
  number _ _ (by rw [pt_len xs o n hl]; exact hm) w (sees_part w g t xs hx hg o n c hl hn hc (by unfold maxLen; omega))
def iC (xs : List Int) : Bool := dz xs 8 36
theorem isCountC (g t : Nat) (xs : List Int) (hx : Byt xs) (hl : xs.length = 44) (w : World) (hg : w.heap[g]? = some (.cells (bcells xs) t (0, 0))) :
    Calls Try.prog 23 #[.slice (some ⟨g, 0, none⟩) 44 44] w fun e w' => e = .returned (.bool (iC xs)) ∧ w = w' := by
  have D := Lib.hid (dzC g t 8 36 xs hx (by omega) (by omega) (by omega) w hg)
  unfold iC
  clear hg hl hx
  go_enter Try.func23, Try.ntmps23
  go_wp2_with fail
  refine D.out.mono ?_
  rintro e w' ⟨rfl, rfl⟩
  go_wp2_with fail
  go_ret
  exact ⟨rfl, rfl⟩
def iV (xs : List Int) : Bool := decide (1 ≤ numI (pt xs 8 4) ∧ numI (pt xs 8 4) ≤ 256) && dz xs 12 32
set_option maxRecDepth 100000 in
theorem isVolumeC (g t : Nat) (xs : List Int) (hx : Byt xs) (hl : xs.length = 44) (w : World) (hg : w.heap[g]? = some (.cells (bcells xs) t (0, 0))) :
    Calls Try.prog 25 #[.slice (some ⟨g, 0, none⟩) 44 44] w fun e w' => e = .returned (.bool (iV xs)) ∧ w = w' := by
  have D := Lib.hid (dzC g t 12 32 xs hx (by omega) (by omega) (by omega) w hg)
  have NU := Lib.hid (numC g t 8 4 xs hx (by omega) (by omega) (by omega) 36 (by omega) (by omega) w hg)
  have E : Hid (iV xs = (decide (1 ≤ numI (pt xs 8 4) ∧ numI (pt xs 8 4) ≤ 256) && dz xs 12 32)) := rfl
  clear hg hl hx
  generalize iV xs = r at *
  generalize dz xs 12 32 = z at *
  generalize numI (pt xs 8 4) = b at *
  by_cases h1 : 1 ≤ b
  · by_cases h2 : b ≤ 256
    · have E2 : Hid (r = z) := by show _ = _; rw [E.out, decide_eq_true ⟨h1, h2⟩]; rfl
      clear E
      go_enter Try.func25, Try.ntmps25
      go_wp2_with fail
      refine NU.out.mono ?_
      rintro e w' ⟨rfl, rfl⟩
      go_wp2_with fail
      refine D.out.mono ?_
      rintro e w' ⟨rfl, rfl⟩
      go_wp2_with fail
      go_ret
      exact ⟨by rw [E2.out]; rfl, rfl⟩
    · have E2 : Hid (r = false) := by show _ = _; rw [E.out, decide_eq_false (fun h => h2 h.2)]; rfl
      clear E
      go_enter Try.func25, Try.ntmps25
      go_wp2_with fail
      refine NU.out.mono ?_
      rintro e w' ⟨rfl, rfl⟩
      go_wp2_with fail
      go_ret
      exact ⟨by rw [E2.out]; rfl, rfl⟩
  · have E2 : Hid (r = false) := by show _ = _; rw [E.out, decide_eq_false (fun h => h1 h.1)]; rfl
    clear E
    go_enter Try.func25, Try.ntmps25
    go_wp2_with fail
    refine NU.out.mono ?_
    rintro e w' ⟨rfl, rfl⟩
    go_wp2_with fail
    go_ret
    exact ⟨by rw [E2.out]; rfl, rfl⟩
def iR (xs : List Int) : Bool := decide (nth xs 0 ≤ 1) && (nth xs 0 == 1 || dz xs 0 44) && dz xs 37 7
set_option maxRecDepth 100000 in
theorem isRootC (g t : Nat) (xs : List Int) (hx : Byt xs) (hl : xs.length = 44) (w : World) (hg : w.heap[g]? = some (.cells (bcells xs) t (0, 0))) :
    Calls Try.prog 30 #[.slice (some ⟨g, 0, none⟩) 44 44] w fun e w' => e = .returned (.bool (iR xs)) ∧ w = w' := by
  have D1 := Lib.hid (dzC g t 0 44 xs hx (by omega) (by omega) (by omega) w hg)
  have D2 := Lib.hid (dzC g t 37 7 xs hx (by omega) (by omega) (by omega) w hg)
  have c0 : w.cell? ⟨g, 0, none⟩ = some (.int .u8 (nth xs 0)) := by rw [cell_of_row _ _ _ _ _ _ hg]; simp [bcells, nth, List.getD, show 0 < xs.length by omega]
  have E : Hid (iR xs = (decide (nth xs 0 ≤ 1) && (nth xs 0 == 1 || dz xs 0 44) && dz xs 37 7)) := rfl
  have b0 := (hx.nth 0).1
  clear hg hl hx
  generalize iR xs = r at *
  generalize dz xs 0 44 = z1 at *
  generalize dz xs 37 7 = z2 at *
  generalize nth xs 0 = b at *
  by_cases h1 : b ≤ 1
  · by_cases h2 : b = 1
    · have E2 : Hid (r = z2) := by show _ = _; rw [E.out, h2]; rfl
      subst h2
      clear E h1 b0
      go_enter Try.func30, Try.ntmps30
      go_wp2_with fail
      refine D2.out.mono ?_
      rintro e w' ⟨rfl, rfl⟩
      go_wp2_with fail
      go_ret
      exact ⟨by rw [E2.out]; rfl, rfl⟩
    · obtain rfl : b = 0 := by omega
      cases z1 with
      | true =>
        have E2 : Hid (r = z2) := by show _ = _; rw [E.out]; rfl
        clear E h1 b0 h2
        go_enter Try.func30, Try.ntmps30
        go_wp2_with fail
        refine D1.out.mono ?_
        rintro e w' ⟨rfl, rfl⟩
        go_wp2_with fail
        refine D2.out.mono ?_
        rintro e w' ⟨rfl, rfl⟩
        go_wp2_with fail
        go_ret
        exact ⟨by rw [E2.out]; rfl, rfl⟩
      | false =>
        have E2 : Hid (r = false) := by show _ = _; rw [E.out]; rfl
        clear E h1 b0 h2
        go_enter Try.func30, Try.ntmps30
        go_wp2_with fail
        refine D1.out.mono ?_
        rintro e w' ⟨rfl, rfl⟩
        go_wp2_with fail
        go_ret
        exact ⟨by rw [E2.out]; rfl, rfl⟩
  · have E2 : Hid (r = false) := by show _ = _; rw [E.out, decide_eq_false h1]; rfl
    clear E
    go_enter Try.func30, Try.ntmps30
    go_wp2_with fail
    go_ret
    exact ⟨by rw [E2.out]; rfl, rfl⟩
def iT (xs : List Int) : Bool := decide (numI (pt xs 32 2) ≤ 2048) && decide (numI (pt xs 34 2) ≤ 2048) && decide (nth xs 36 ≤ 1) && dz xs 37 7
set_option maxRecDepth 100000 in
theorem isTenantC (g t : Nat) (xs : List Int) (hx : Byt xs) (hl : xs.length = 44) (w : World) (hg : w.heap[g]? = some (.cells (bcells xs) t (0, 0))) :
    Calls Try.prog 31 #[.slice (some ⟨g, 0, none⟩) 44 44] w fun e w' => e = .returned (.bool (iT xs)) ∧ w = w' := by
  have D := Lib.hid (dzC g t 37 7 xs hx (by omega) (by omega) (by omega) w hg)
  have N1 := Lib.hid (numC g t 32 2 xs hx (by omega) (by omega) (by omega) 12 (by omega) (by omega) w hg)
  have N2 := Lib.hid (numC g t 34 2 xs hx (by omega) (by omega) (by omega) 10 (by omega) (by omega) w hg)
  have c0 : w.cell? ⟨g, 36, none⟩ = some (.int .u8 (nth xs 36)) := by rw [cell_of_row _ _ _ _ _ _ hg]; simp [bcells, nth, List.getD, show 36 < xs.length by omega]
  have E : Hid (iT xs = (decide (numI (pt xs 32 2) ≤ 2048) && decide (numI (pt xs 34 2) ≤ 2048) && decide (nth xs 36 ≤ 1) && dz xs 37 7)) := rfl
  clear hg hl hx
  generalize iT xs = r at *
  generalize dz xs 37 7 = z at *
  generalize numI (pt xs 32 2) = p at *
  generalize numI (pt xs 34 2) = q at *
  generalize nth xs 36 = b at *
  by_cases h1 : p ≤ 2048
  · by_cases h2 : q ≤ 2048
    · by_cases h3 : b ≤ 1
      · have E2 : Hid (r = z) := by show _ = _; rw [E.out, decide_eq_true h1, decide_eq_true h2, decide_eq_true h3]; rfl
        clear E
        go_enter Try.func31, Try.ntmps31
        go_wp2_with fail
        refine N1.out.mono ?_
        rintro e w' ⟨rfl, rfl⟩
        go_wp2_with fail
        refine N2.out.mono ?_
        rintro e w' ⟨rfl, rfl⟩
        go_wp2_with fail
        refine D.out.mono ?_
        rintro e w' ⟨rfl, rfl⟩
        go_wp2_with fail
        go_ret
        exact ⟨by rw [E2.out]; rfl, rfl⟩
      · have E2 : Hid (r = false) := by show _ = _; rw [E.out, decide_eq_false h3, Bool.and_false]; rfl
        clear E
        go_enter Try.func31, Try.ntmps31
        go_wp2_with fail
        refine N1.out.mono ?_
        rintro e w' ⟨rfl, rfl⟩
        go_wp2_with fail
        refine N2.out.mono ?_
        rintro e w' ⟨rfl, rfl⟩
        go_wp2_with fail
        go_ret
        exact ⟨by rw [E2.out]; rfl, rfl⟩
    · have E2 : Hid (r = false) := by show _ = _; rw [E.out, decide_eq_false h2, Bool.and_false]; rfl
      clear E
      go_enter Try.func31, Try.ntmps31
      go_wp2_with fail
      refine N1.out.mono ?_
      rintro e w' ⟨rfl, rfl⟩
      go_wp2_with fail
      refine N2.out.mono ?_
      rintro e w' ⟨rfl, rfl⟩
      go_wp2_with fail
      go_ret
      exact ⟨by rw [E2.out]; rfl, rfl⟩
  · have E2 : Hid (r = false) := by show _ = _; rw [E.out, decide_eq_false h1, Bool.false_and]; rfl
    clear E
    go_enter Try.func31, Try.ntmps31
    go_wp2_with fail
    refine N1.out.mono ?_
    rintro e w' ⟨rfl, rfl⟩
    go_wp2_with fail
    go_ret
    exact ⟨by rw [E2.out]; rfl, rfl⟩
/-! ### What they mean -/
theorem be_numI : ∀ (n : Nat) (p : List Int), p.length = n → Byt p → be n (numI p) = p
  | 0, p, h, _ => by obtain rfl := List.length_eq_zero_iff.1 h; rfl
  | n + 1, p, h, hb => by
    obtain ⟨m, x, rfl⟩ : ∃ m x, p = m ++ [x] := by
      rcases List.eq_nil_or_concat p with rfl | ⟨m, x, rfl⟩
      · simp at h
      · exact ⟨m, x, by simp⟩
    have hx := hb x (by simp)
    have ih := be_numI n m (by simpa using h) (fun y hy => hb y (by simp [hy]))
    rw [numI_snoc]
    show be n ((numI m * 256 + x) / 256) ++ [(numI m * 256 + x) % 256] = _
    rw [show (numI m * 256 + x) / 256 = numI m by omega, show (numI m * 256 + x) % 256 = x by omega, ih]
theorem fv_iff {v : List Int} {P : List (List Int)} {k n : Nat} (hl : v.length = 44) (hP : P.flatten = v.take k) (hk : k + n = 44) : fv P = v ↔ dz v k n = true := by
  unfold fv dz
  have h1 : P.flatten.length = k := by rw [hP, List.length_take]; omega
  have h2 : pt v k n = v.drop k := List.take_of_length_le (by rw [List.length_drop]; omega)
  rw [h1, h2, hP, show 44 - k = n by omega, decide_eq_true_eq]
  constructor
  · intro h
    have := congrArg (List.drop k) h
    rw [List.drop_append_of_le_length (by rw [List.length_take]; omega), List.drop_of_length_le (by rw [List.length_take]; omega), List.nil_append] at this
    exact this.symm
  · intro h
    rw [← h, List.take_append_drop]
theorem take_pt (v : List Int) (a b : Nat) : v.take (a + b) = v.take a ++ pt v a b := by
  unfold pt
  rw [← List.take_add]
theorem cW_iff {v : List Int} (hv : Byt v) (hl : v.length = 44) : (True ∧ cW (numI (pt v 0 8)) = v) ↔ iC v = true := by
  have e : ([be 8 (numI (pt v 0 8))] : List (List Int)).flatten = v.take 8 := by
    rw [be_numI 8 _ (pt_len v 0 8 (by omega)) (pt_byt hv 0 8)]; simp [pt]
  rw [true_and]
  exact fv_iff (n := 36) hl e rfl
theorem vW_iff {v : List Int} (hv : Byt v) (hl : v.length = 44) : (vMay (vB v) ∧ vW (vN v) (vB v) = v) ↔ iV v = true := by
  have e : (vP (vN v) (vB v)).flatten = v.take 12 := by
    unfold vP vN vB
    rw [be_numI 8 _ (pt_len v 0 8 (by omega)) (pt_byt hv 0 8), be_numI 4 _ (pt_len v 8 4 (by omega)) (pt_byt hv 8 4), show (12 : Nat) = 8 + 4 from rfl, take_pt v 8 4]
    simp [pt]
  have h : vW (vN v) (vB v) = v ↔ dz v 12 32 = true := fv_iff hl e rfl
  rw [h]
  unfold iV vMay vB
  rw [Bool.and_eq_true, decide_eq_true_eq]
theorem oW_iff {v : List Int} (hv : Byt v) (hl : v.length = 44) : (oMay (oH v) (oS v) (oZ v) ∧ oW (oH v) (oS v) (oZ v) = v) ↔ iR v = true := by
  have e0 : pt v 0 1 = [nth v 0] := by
    match v, hl with
    | x :: _, _ => simp [pt, nth]
  have b0 := hv.nth 0
  have eN : oN v = nth v 0 := by unfold oN; rw [e0]; simp [numI]
  have e4 : be 4 (oS v) = pt v 1 4 := be_numI 4 _ (pt_len v 1 4 (by omega)) (pt_byt hv 1 4)
  have t5 : v.take 37 = [nth v 0] ++ (pt v 1 4 ++ oZ v) := by
    rw [show (37 : Nat) = 5 + 32 from rfl, take_pt v 5 32, show (5 : Nat) = 1 + 4 from rfl, take_pt v 1 4, show v.take 1 = pt v 0 1 by simp [pt], e0]
    unfold oZ
    simp
  have hP : (oP (oH v) (oS v) (oZ v)).flatten = be 1 (b2i (oH v)) ++ (pt v 1 4 ++ oZ v) := by simp [oP, e4]
  unfold iR
  rw [Bool.and_eq_true, Bool.and_eq_true, Bool.or_eq_true, decide_eq_true_eq, beq_iff_eq]
  by_cases h1 : nth v 0 = 1
  · have hh : oH v = true := by unfold oH; rw [eN, h1]; rfl
    have hf : (oP (oH v) (oS v) (oZ v)).flatten = v.take 37 := by rw [hP, t5, hh, h1]; rfl
    have h : oW (oH v) (oS v) (oZ v) = v ↔ dz v 37 7 = true := fv_iff hl hf rfl
    rw [h]
    constructor
    · exact fun x => ⟨⟨by omega, .inl h1⟩, x.2⟩
    · exact fun x => ⟨.inl hh, x.2⟩
  · have hh : oH v = false := by unfold oH; rw [eN]; simpa using h1
    by_cases h0 : nth v 0 = 0
    · have hf : (oP (oH v) (oS v) (oZ v)).flatten = v.take 37 := by rw [hP, t5, hh, h0]; rfl
      have h : oW (oH v) (oS v) (oZ v) = v ↔ dz v 37 7 = true := fv_iff hl hf rfl
      rw [h]
      have hz44 : dz v 0 44 = true ↔ v = zs 44 := by
        unfold dz
        rw [decide_eq_true_eq, show pt v 0 44 = v by unfold pt; rw [List.drop_zero, List.take_of_length_le (by omega)]]
      have hsp : v = v.take 37 ++ v.drop 37 := (List.take_append_drop 37 v).symm
      rw [hz44]
      constructor
      · rintro ⟨hm, hd⟩
        refine ⟨⟨by omega, .inr ?_⟩, hd⟩
        rcases hm with hm | ⟨hs, hz⟩
        · rw [hh] at hm; cases hm
        · have h2 : v.drop 37 = zs 7 := by
            have := of_decide_eq_true hd
            unfold pt at this
            rwa [List.take_of_length_le (by rw [List.length_drop]; omega)] at this
          rw [hsp, h2, t5, h0, ← e4, hs, hz]
          decide
      · rintro ⟨⟨_, hm⟩, hd⟩
        refine ⟨.inr ?_, hd⟩
        rcases hm with hm | hm
        · exact absurd hm h1
        · unfold oS oZ
          rw [hm]
          decide
    · constructor
      · rintro ⟨_, hw⟩
        exfalso
        have : pt (oW (oH v) (oS v) (oZ v)) 0 1 = pt v 0 1 := by rw [hw]
        rw [e0, hh] at this
        have e2 : pt (oW false (oS v) (oZ v)) 0 1 = [0] := by
          unfold oW fv
          simp [oP, pt, b2i, be]
        rw [e2] at this
        simp at this
        omega
      · rintro ⟨⟨h, _⟩, _⟩
        omega
theorem nW_iff {v : List Int} (hv : Byt v) (hl : v.length = 44) : (nMay (nR v) (nQ v) (nC v) ∧ nW (nZ v) (nR v) (nQ v) (nC v) = v) ↔ iT v = true := by
  have e36 : pt v 36 1 = [nth v 36] := by
    unfold pt
    have e : nth v 36 = v[36] := by simp [nth, List.getD, show 36 < v.length by omega]
    rw [List.drop_eq_getElem_cons (by omega), List.take_succ_cons, List.take_zero, e]
  have eC : nC v = nth v 36 := by unfold nC; rw [e36]; simp [numI]
  have e : (nP (nZ v) (nR v) (nQ v) (nC v)).flatten = v.take 37 := by
    unfold nP nZ nR nQ nC
    rw [be_numI 2 _ (pt_len v 32 2 (by omega)) (pt_byt hv 32 2), be_numI 2 _ (pt_len v 34 2 (by omega)) (pt_byt hv 34 2), be_numI 1 _ (pt_len v 36 1 (by omega)) (pt_byt hv 36 1)]
    rw [show (37 : Nat) = 36 + 1 from rfl, take_pt v 36 1, show (36 : Nat) = 34 + 2 from rfl, take_pt v 34 2, show (34 : Nat) = 32 + 2 from rfl, take_pt v 32 2]
    simp [pt]
  have h : nW (nZ v) (nR v) (nQ v) (nC v) = v ↔ dz v 37 7 = true := fv_iff hl e rfl
  rw [h]
  have rb := num16 (pt_byt hv 32 2) (pt_len v 32 2 (by omega))
  have qb := num16 (pt_byt hv 34 2) (pt_len v 34 2 (by omega))
  have cb := hv.nth 36
  unfold iT nMay
  rw [Bool.and_eq_true, Bool.and_eq_true, Bool.and_eq_true, decide_eq_true_eq, decide_eq_true_eq, decide_eq_true_eq, eC]
  unfold nR nQ
  constructor
  · rintro ⟨⟨⟨_, a⟩, ⟨_, b⟩, _, c⟩, d⟩
    exact ⟨⟨⟨a, b⟩, c⟩, d⟩
  · rintro ⟨⟨⟨a, b⟩, c⟩, d⟩
    exact ⟨⟨⟨rb.1, a⟩, ⟨qb.1, b⟩, cb.1, c⟩, d⟩
end Go.Proofs.Ytbhkhkiidaemcaa
