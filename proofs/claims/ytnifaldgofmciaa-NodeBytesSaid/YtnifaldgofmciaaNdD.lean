/-
  Two values, two kids are compared as they read; contract of slices.Equal of kids. Condition: the slices read as kids.
-/
import Derived.Test.YtnifaldgofmciaaNdC
import Derived.Stop.BytesEq
namespace Go.Proofs.Ytnifaldgofmciaa
open Go.RowKit Go.Extern.Stop
def tobN (xs : List Int) : List UInt8 := xs.map fun n => UInt8.ofNat n.toNat
theorem tobN_inj : ∀ {xs ys : List Int}, (∀ x ∈ xs, 0 ≤ x ∧ x ≤ 255) → (∀ x ∈ ys, 0 ≤ x ∧ x ≤ 255) → tobN xs = tobN ys → xs = ys
  | [], [], _, _, _ => rfl
  | [], _ :: _, _, _, h => by simp [tobN] at h
  | _ :: _, [], _, _, h => by simp [tobN] at h
  | x :: xs, y :: ys, hx, hy, h => by
    simp only [tobN, List.map_cons, List.cons.injEq] at h
    have h1 := hx x (by simp)
    have h2 := hy y (by simp)
    have h3 := congrArg UInt8.toNat h.1
    simp at h3
    rw [show x = y from by omega, tobN_inj (xs := xs) (ys := ys) (fun z hz => hx z (by simp [hz])) (fun z hz => hy z (by simp [hz])) h.2]
theorem cells_tobN (xs : List Int) (h : ∀ x ∈ xs, 0 ≤ x ∧ x ≤ 255) : (xs.map (Value.int .u8)).toArray = ((tobN xs).map Extern.Stop.cell).toArray := by
  unfold tobN
  rw [List.map_map]
  congr 1
  apply List.map_congr_left
  intro x hx
  have := h x hx
  simp only [Function.comp_def, Extern.Stop.cell]
  congr 1
  simp
  omega
theorem eqBytes (d : Nat) (t : TypeId) (n : Nat) (ht : Try.prog.underlying t = some (.array n 5)) (xs ys : List Int) (hx : ∀ x ∈ xs, 0 ≤ x ∧ x ≤ 255) (hy : ∀ x ∈ ys, 0 ≤ x ∧ x ≤ 255) (lx : xs.length = n) (ly : ys.length = n) (w : World) :
    (Op.equalIn (d + 2) t (.agg (xs.map (Value.int .u8)).toArray) (.agg (ys.map (Value.int .u8)).toArray)).run Try.prog w = .ok (decide (xs = ys)) w := by
  have h := run_equalIn_bytes (P := Try.prog) w d t 5 n ht Try.underlying5 (fun _ => by kernel_rfl) (tobN xs) (tobN ys) (by simp [tobN, lx]) (by simp [tobN, ly])
  rw [← cells_tobN xs hx, ← cells_tobN ys hy] at h
  have hb : (tobN xs == tobN ys) = decide (xs = ys) := by
    by_cases e : xs = ys
    · subst e; simp
    · have : tobN xs ≠ tobN ys := fun h => e (tobN_inj hx hy h)
      simp [e, this]
  rw [h, hb]
/-- A value's cells. -/
def val (zs : List Int) : List Value := zs.map (Value.int .u8)
theorem valEq (zs zs' : List Int) (h : ∀ x ∈ zs, 0 ≤ x ∧ x ≤ 255) (h' : ∀ x ∈ zs', 0 ≤ x ∧ x ≤ 255) (l : zs.length = 44) (l' : zs'.length = 44) (W : World) :
    (Op.equalIn 10000 54 (.agg (val zs).toArray) (.agg (val zs').toArray)).run Try.prog W = .ok (decide (zs = zs')) W := eqBytes 9998 54 44 (by kernel_rfl) zs zs' h h' l l' W
/-- A kid's cells. -/
def kid (p : Int × List Int) : List Value := .int .u32 p.1 :: p.2.map (Value.int .u8)
theorem sumEq (zs zs' : List Int) (h : ∀ x ∈ zs, 0 ≤ x ∧ x ≤ 255) (h' : ∀ x ∈ zs', 0 ≤ x ∧ x ≤ 255) (l : zs.length = 32) (l' : zs'.length = 32) (W : World) :
    (Op.equalIn 9999 65 (.agg (List.take 32 (List.map (Value.int IntKind.u8) zs)).toArray) (.agg (List.take 32 (List.map (Value.int IntKind.u8) zs')).toArray)).run Try.prog W = .ok (decide (zs = zs')) W := by
  rw [List.take_of_length_le (by simp [l]), List.take_of_length_le (by simp [l'])]
  exact eqBytes 9997 65 32 (by kernel_rfl) zs zs' h h' l l' W
set_option maxRecDepth 100000 in
set_option maxHeartbeats 4000000 in
theorem equalQ (v u : Value) (xs ys : List (Int × List Int)) (w : World) (hv : ES kid 33 w v xs) (hu : ES kid 33 w u ys) (hE : (∀ p ∈ xs, (∀ x ∈ p.2, 0 ≤ x ∧ x ≤ 255) ∧ p.2.length = 32) ∧ ∀ p ∈ ys, (∀ x ∈ p.2, 0 ≤ x ∧ x ≤ 255) ∧ p.2.length = 32) :
    Calls Try.prog 36 #[v, u] w fun e w' => e = .returned (.bool (decide (xs = ys))) ∧ Below w.heap.size w w' := by
  obtain ⟨h1, h2, x, c, rfl, h4⟩ := hv
  obtain ⟨_, h2', x', c', rfl, h4'⟩ := hu
  have ISZ : Hid (∀ l : List Value, l.length = 33 → (Try.prog.info? 67).map (·.size) = some l.length) := fun l hl => by
    rw [show (Try.prog.info? 67).map (·.size) = some 33 from by kernel_rfl]
    simp [hl]
  by_cases hne : xs.length = ys.length
  · have HC := Lib.hid h4
    have HC' := Lib.hid h4'
    have HS := Lib.hid h2
    have HS' := Lib.hid h2'
    have HE := Lib.hid hE
    have HEQ := Lib.hid (eq_all hne)
    obtain ⟨n, hn⟩ : ∃ n, n = ys.length := ⟨_, rfl⟩
    rw [hne, ← hn] at HEQ h1
    rw [hne, ← hn]
    have HN := Lib.hid hn
    have HN1 : Hid (n = xs.length) := by show _ = _; omega
    have hni : (n : Int) ≤ 9223372036854775807 := by omega
    clear h1 h2 h2' h4 h4' hE hn hne
    go_enter Try.func36, Try.ntmps36
    go_wp2_with fail
    go_loopw [13] (fun vi wr => ∃ i : Nat, i ≤ n ∧ vi = .int .i64 (i : Int) ∧ (∀ j, j < i → xs[j]? = ys[j]?) ∧ Below w.heap.size w wr) (fun vi _ => n - (intOf vi).toNat)
    case atStart => exact ⟨0, by omega, rfl, fun j h => by omega, Below.refl _ _⟩
    case round =>
      obtain ⟨i, hi, rfl, hall, hbw⟩ := hrel
      have HALL := Lib.hid hall
      have HBW := Lib.hid hbw
      clear hall hbw
      by_cases hlt : i < n
      · have hii : (i : Int) < (n : Int) := by omega
        have HLT := Lib.hid hlt
        have hix : i < xs.length := by have := HN1.out; omega
        have hiy : i < ys.length := by have := HN.out; omega
        have gx : xs[i]? = some xs[i] := List.getElem?_eq_getElem hix
        have gy : ys[i]? = some ys[i] := List.getElem?_eq_getElem hiy
        obtain ⟨b, o, rfl, hlb, hrx⟩ := HC.out i _ gx
        obtain ⟨b', o', rfl, hlb', hry⟩ := HC'.out i _ gy
        have mx := List.getElem_mem hix
        have my := List.getElem_mem hiy
        have NEQ : Hid (xs[i] ≠ ys[i] → xs ≠ ys) := fun h e => h (by subst e; rfl)
        have NAL : Hid (xs[i] = ys[i] → ∀ j, j < i + 1 → xs[j]? = ys[j]?) := fun h j hj => by
          by_cases hji : j < i
          · exact HALL.out j hji
          · have hj' : j = i := by omega
            rw [hj', gx, gy, h]
        obtain ⟨X, hX⟩ : ∃ X, X = xs[i] := ⟨_, rfl⟩
        obtain ⟨Y, hY⟩ : ∃ Y, Y = ys[i] := ⟨_, rfl⟩
        rw [← hX] at mx hrx NEQ NAL
        rw [← hY] at my hry NEQ NAL
        have RX := Lib.hid hrx
        have RY := Lib.hid hry
        have LB := Lib.hid hlb
        have LB' := Lib.hid hlb'
        have IX := Lib.hid (ISZ.out (kid X) (HS.out X mx))
        have IY := Lib.hid (ISZ.out (kid Y) (HS'.out Y my))
        have EX := HE.out.1 X mx
        have EY := HE.out.2 Y my
        obtain ⟨s, zs⟩ := X
        obtain ⟨s', zs'⟩ := Y
        have EQ0 := Lib.hid (sumEq zs zs' EX.1 EY.1 EX.2 EY.2)
        clear gx gy mx my hrx hry hlb hlb' hix hiy hX hY EX EY
        by_cases hs : s = s'
        · subst hs
          by_cases hz : zs = zs'
          · subst hz
            have EQ : Hid (∀ W : World, (Op.equalIn 9999 65 (.agg (List.take 32 (List.map (Value.int IntKind.u8) zs)).toArray) (.agg (List.take 32 (List.map (Value.int IntKind.u8) zs)).toArray)).run Try.prog W = .ok true W) := fun W => by rw [EQ0.out W, decide_eq_true rfl]
            have NA := Lib.hid (NAL.out rfl)
            clear EQ0 NAL NEQ
            go_wp2_with fail
            refine wp_region_held_drew (S := fun W => Below w.heap.size w W) (by kernel_rfl) HBW.out.drew (fun hS => ?_)
            refine' wpAnyH_take (i := 0) ?h1x0p ?hsx0p ?hfx0p ?hrx0p ?hQx0p (Or.inl ⟨?hwx0p, ?hyx0p⟩) hS ?restx0p
            case h1x0p => (simp only [List.getElem?_toArray, List.getElem?_cons_zero]; rfl)
            case hsx0p | hfx0p | hrx0p => kernel_rfl
            case hQx0p => exact fun _ _ _ h => h
            case hwx0p => rfl
            case hyx0p =>
              intro W hW
              go_simp
              try with_reducible rfl
            simp only [Act.put, List.setIfInBounds_toArray, List.set_cons_succ, List.set_cons_zero]
            refine' wpAnyH_take (i := 1) ?h1x1p ?hsx1p ?hfx1p ?hrx1p ?hQx1p (Or.inl ⟨?hwx1p, ?hyx1p⟩) hS ?restx1p
            case h1x1p => (simp only [List.getElem?_toArray, List.getElem?_cons_succ, List.getElem?_cons_zero]; rfl)
            case hsx1p | hfx1p | hrx1p => kernel_rfl
            case hQx1p => exact fun _ _ _ h => h
            case hwx1p => rfl
            case hyx1p =>
              intro W hW
              go_simp
              try with_reducible rfl
            simp only [Act.put, List.setIfInBounds_toArray, List.set_cons_succ, List.set_cons_zero]
            refine' wpAnyH_take (i := 2) ?h1x2p ?hsx2p ?hfx2p ?hrx2p ?hQx2p (Or.inl ⟨?hwx2p, ?hyx2p⟩) hS ?restx2p
            case h1x2p => (simp only [List.getElem?_toArray, List.getElem?_cons_succ, List.getElem?_cons_zero]; rfl)
            case hsx2p | hfx2p | hrx2p => kernel_rfl
            case hQx2p => exact fun _ _ _ h => h
            case hwx2p => rfl
            case hyx2p =>
              intro W hW
              go_simp
              try with_reducible rfl
            simp only [Act.put, List.setIfInBounds_toArray, List.set_cons_succ, List.set_cons_zero]
            refine' wpAnyH_take (i := 3) ?h1x3p ?hsx3p ?hfx3p ?hrx3p ?hQx3p (yieldsIf_load_mid ?hwx3p 67 (.tmp 18) ?hopx3p b (o + i * 33) rfl (.int .u32 s :: zs.map (Value.int .u8)) _ (fun W hW => range_below RX.out LB.out hW) Try.underlying67 rfl ?hix3p) hS ?restx3p
            case h1x3p => (simp only [List.getElem?_toArray, List.getElem?_cons_succ, List.getElem?_cons_zero]; rfl)
            case hopx3p => rfl
            case hsx3p | hfx3p | hrx3p => kernel_rfl
            case hQx3p => exact fun _ _ _ h => h
            case hwx3p => rfl
            case hix3p => exact IX.out
            simp only [Act.put, List.setIfInBounds_toArray, List.set_cons_succ, List.set_cons_zero]
            refine' wpAnyH_take (i := 4) ?h1x4p ?hsx4p ?hfx4p ?hrx4p ?hQx4p (Or.inl ⟨?hwx4p, ?hyx4p⟩) hS ?restx4p
            case h1x4p => (simp only [List.getElem?_toArray, List.getElem?_cons_succ, List.getElem?_cons_zero]; rfl)
            case hsx4p | hfx4p | hrx4p => kernel_rfl
            case hQx4p => exact fun _ _ _ h => h
            case hwx4p => rfl
            case hyx4p =>
              intro W hW
              go_simp
              try with_reducible rfl
            simp only [Act.put, List.setIfInBounds_toArray, List.set_cons_succ, List.set_cons_zero]
            refine' wpAnyH_take (i := 5) ?h1x5p ?hsx5p ?hfx5p ?hrx5p ?hQx5p (Or.inl ⟨?hwx5p, ?hyx5p⟩) hS ?restx5p
            case h1x5p => (simp only [List.getElem?_toArray, List.getElem?_cons_succ, List.getElem?_cons_zero]; rfl)
            case hsx5p | hfx5p | hrx5p => kernel_rfl
            case hQx5p => exact fun _ _ _ h => h
            case hwx5p => rfl
            case hyx5p =>
              intro W hW
              go_simp
              try with_reducible rfl
            simp only [Act.put, List.setIfInBounds_toArray, List.set_cons_succ, List.set_cons_zero]
            refine' wpAnyH_take (i := 6) ?h1x6p ?hsx6p ?hfx6p ?hrx6p ?hQx6p (Or.inl ⟨?hwx6p, ?hyx6p⟩) hS ?restx6p
            case h1x6p => (simp only [List.getElem?_toArray, List.getElem?_cons_succ, List.getElem?_cons_zero]; rfl)
            case hsx6p | hfx6p | hrx6p => kernel_rfl
            case hQx6p => exact fun _ _ _ h => h
            case hwx6p => rfl
            case hyx6p =>
              intro W hW
              go_simp
              try with_reducible rfl
            simp only [Act.put, List.setIfInBounds_toArray, List.set_cons_succ, List.set_cons_zero]
            refine' wpAnyH_take (i := 7) ?h1x7p ?hsx7p ?hfx7p ?hrx7p ?hQx7p (yieldsIf_load_mid ?hwx7p 67 (.tmp 22) ?hopx7p b' (o' + i * 33) rfl (.int .u32 s :: zs.map (Value.int .u8)) _ (fun W hW => range_below RY.out LB'.out hW) Try.underlying67 rfl ?hix7p) hS ?restx7p
            case h1x7p => (simp only [List.getElem?_toArray, List.getElem?_cons_succ, List.getElem?_cons_zero]; rfl)
            case hopx7p => rfl
            case hsx7p | hfx7p | hrx7p => kernel_rfl
            case hQx7p => exact fun _ _ _ h => h
            case hwx7p => rfl
            case hix7p => exact IY.out
            simp only [Act.put, List.setIfInBounds_toArray, List.set_cons_succ, List.set_cons_zero]
            refine' wpAnyH_take (i := 8) ?h1x8p ?hsx8p ?hfx8p ?hrx8p ?hQx8p (Or.inl ⟨?hwx8p, ?hyx8p⟩) hS ?restx8p
            case h1x8p => (simp only [List.getElem?_toArray, List.getElem?_cons_succ, List.getElem?_cons_zero]; rfl)
            case hsx8p | hfx8p | hrx8p => kernel_rfl
            case hQx8p => exact fun _ _ _ h => h
            case hwx8p => rfl
            case hyx8p =>
              intro W hW
              have eq := EQ.out W
              go_simp
              try with_reducible rfl
            simp only [Act.put, List.setIfInBounds_toArray, List.set_cons_succ, List.set_cons_zero]
            refine wpAnyH_done (by kernel_rfl) ?_ _
            clear hS
            go_wp2_with fail
            go_roundw
            case rel => exact ⟨i + 1, HLT.out, by go_num, NA.out, HBW.out.drew⟩
            case measure => simp [intOf]; have := HLT.out; omega
          · have EQ : Hid (∀ W : World, (Op.equalIn 9999 65 (.agg (List.take 32 (List.map (Value.int IntKind.u8) zs)).toArray) (.agg (List.take 32 (List.map (Value.int IntKind.u8) zs')).toArray)).run Try.prog W = .ok false W) := fun W => by rw [EQ0.out W, decide_eq_false hz]
            have FN : Hid (decide (xs = ys) = false) := decide_eq_false (NEQ.out (fun e => hz (Prod.mk.inj e).2))
            clear hz EQ0 NAL NEQ
            go_wp2_with fail
            refine wp_region_held_drew (S := fun W => Below w.heap.size w W) (by kernel_rfl) HBW.out.drew (fun hS => ?_)
            refine' wpAnyH_take (i := 0) ?h1x0q ?hsx0q ?hfx0q ?hrx0q ?hQx0q (Or.inl ⟨?hwx0q, ?hyx0q⟩) hS ?restx0q
            case h1x0q => (simp only [List.getElem?_toArray, List.getElem?_cons_zero]; rfl)
            case hsx0q | hfx0q | hrx0q => kernel_rfl
            case hQx0q => exact fun _ _ _ h => h
            case hwx0q => rfl
            case hyx0q =>
              intro W hW
              go_simp
              try with_reducible rfl
            simp only [Act.put, List.setIfInBounds_toArray, List.set_cons_succ, List.set_cons_zero]
            refine' wpAnyH_take (i := 1) ?h1x1q ?hsx1q ?hfx1q ?hrx1q ?hQx1q (Or.inl ⟨?hwx1q, ?hyx1q⟩) hS ?restx1q
            case h1x1q => (simp only [List.getElem?_toArray, List.getElem?_cons_succ, List.getElem?_cons_zero]; rfl)
            case hsx1q | hfx1q | hrx1q => kernel_rfl
            case hQx1q => exact fun _ _ _ h => h
            case hwx1q => rfl
            case hyx1q =>
              intro W hW
              go_simp
              try with_reducible rfl
            simp only [Act.put, List.setIfInBounds_toArray, List.set_cons_succ, List.set_cons_zero]
            refine' wpAnyH_take (i := 2) ?h1x2q ?hsx2q ?hfx2q ?hrx2q ?hQx2q (Or.inl ⟨?hwx2q, ?hyx2q⟩) hS ?restx2q
            case h1x2q => (simp only [List.getElem?_toArray, List.getElem?_cons_succ, List.getElem?_cons_zero]; rfl)
            case hsx2q | hfx2q | hrx2q => kernel_rfl
            case hQx2q => exact fun _ _ _ h => h
            case hwx2q => rfl
            case hyx2q =>
              intro W hW
              go_simp
              try with_reducible rfl
            simp only [Act.put, List.setIfInBounds_toArray, List.set_cons_succ, List.set_cons_zero]
            refine' wpAnyH_take (i := 3) ?h1x3q ?hsx3q ?hfx3q ?hrx3q ?hQx3q (yieldsIf_load_mid ?hwx3q 67 (.tmp 18) ?hopx3q b (o + i * 33) rfl (.int .u32 s :: zs.map (Value.int .u8)) _ (fun W hW => range_below RX.out LB.out hW) Try.underlying67 rfl ?hix3q) hS ?restx3q
            case h1x3q => (simp only [List.getElem?_toArray, List.getElem?_cons_succ, List.getElem?_cons_zero]; rfl)
            case hopx3q => rfl
            case hsx3q | hfx3q | hrx3q => kernel_rfl
            case hQx3q => exact fun _ _ _ h => h
            case hwx3q => rfl
            case hix3q => exact IX.out
            simp only [Act.put, List.setIfInBounds_toArray, List.set_cons_succ, List.set_cons_zero]
            refine' wpAnyH_take (i := 4) ?h1x4q ?hsx4q ?hfx4q ?hrx4q ?hQx4q (Or.inl ⟨?hwx4q, ?hyx4q⟩) hS ?restx4q
            case h1x4q => (simp only [List.getElem?_toArray, List.getElem?_cons_succ, List.getElem?_cons_zero]; rfl)
            case hsx4q | hfx4q | hrx4q => kernel_rfl
            case hQx4q => exact fun _ _ _ h => h
            case hwx4q => rfl
            case hyx4q =>
              intro W hW
              go_simp
              try with_reducible rfl
            simp only [Act.put, List.setIfInBounds_toArray, List.set_cons_succ, List.set_cons_zero]
            refine' wpAnyH_take (i := 5) ?h1x5q ?hsx5q ?hfx5q ?hrx5q ?hQx5q (Or.inl ⟨?hwx5q, ?hyx5q⟩) hS ?restx5q
            case h1x5q => (simp only [List.getElem?_toArray, List.getElem?_cons_succ, List.getElem?_cons_zero]; rfl)
            case hsx5q | hfx5q | hrx5q => kernel_rfl
            case hQx5q => exact fun _ _ _ h => h
            case hwx5q => rfl
            case hyx5q =>
              intro W hW
              go_simp
              try with_reducible rfl
            simp only [Act.put, List.setIfInBounds_toArray, List.set_cons_succ, List.set_cons_zero]
            refine' wpAnyH_take (i := 6) ?h1x6q ?hsx6q ?hfx6q ?hrx6q ?hQx6q (Or.inl ⟨?hwx6q, ?hyx6q⟩) hS ?restx6q
            case h1x6q => (simp only [List.getElem?_toArray, List.getElem?_cons_succ, List.getElem?_cons_zero]; rfl)
            case hsx6q | hfx6q | hrx6q => kernel_rfl
            case hQx6q => exact fun _ _ _ h => h
            case hwx6q => rfl
            case hyx6q =>
              intro W hW
              go_simp
              try with_reducible rfl
            simp only [Act.put, List.setIfInBounds_toArray, List.set_cons_succ, List.set_cons_zero]
            refine' wpAnyH_take (i := 7) ?h1x7q ?hsx7q ?hfx7q ?hrx7q ?hQx7q (yieldsIf_load_mid ?hwx7q 67 (.tmp 22) ?hopx7q b' (o' + i * 33) rfl (.int .u32 s :: zs'.map (Value.int .u8)) _ (fun W hW => range_below RY.out LB'.out hW) Try.underlying67 rfl ?hix7q) hS ?restx7q
            case h1x7q => (simp only [List.getElem?_toArray, List.getElem?_cons_succ, List.getElem?_cons_zero]; rfl)
            case hopx7q => rfl
            case hsx7q | hfx7q | hrx7q => kernel_rfl
            case hQx7q => exact fun _ _ _ h => h
            case hwx7q => rfl
            case hix7q => exact IY.out
            simp only [Act.put, List.setIfInBounds_toArray, List.set_cons_succ, List.set_cons_zero]
            refine' wpAnyH_take (i := 8) ?h1x8q ?hsx8q ?hfx8q ?hrx8q ?hQx8q (Or.inl ⟨?hwx8q, ?hyx8q⟩) hS ?restx8q
            case h1x8q => (simp only [List.getElem?_toArray, List.getElem?_cons_succ, List.getElem?_cons_zero]; rfl)
            case hsx8q | hfx8q | hrx8q => kernel_rfl
            case hQx8q => exact fun _ _ _ h => h
            case hwx8q => rfl
            case hyx8q =>
              intro W hW
              have eq := EQ.out W
              go_simp
              try with_reducible rfl
            simp only [Act.put, List.setIfInBounds_toArray, List.set_cons_succ, List.set_cons_zero]
            refine wpAnyH_done (by kernel_rfl) ?_ _
            clear hS
            go_wp2_with fail
            go_ret
            exact ⟨by rw [FN.out]; rfl, HBW.out.drew⟩
        · have EQ : Hid (∀ W : World, True) := fun _ => trivial
          have FN : Hid (decide (xs = ys) = false) := decide_eq_false (NEQ.out (fun e => hs (Prod.mk.inj e).1))
          have hsb : (s == s') = false := by simpa using hs
          clear EQ0 NAL NEQ
          go_wp2_with fail
          refine wp_region_held_drew (S := fun W => Below w.heap.size w W) (by kernel_rfl) HBW.out.drew (fun hS => ?_)
          refine' wpAnyH_take (i := 0) ?h1x0r ?hsx0r ?hfx0r ?hrx0r ?hQx0r (Or.inl ⟨?hwx0r, ?hyx0r⟩) hS ?restx0r
          case h1x0r => (simp only [List.getElem?_toArray, List.getElem?_cons_zero]; rfl)
          case hsx0r | hfx0r | hrx0r => kernel_rfl
          case hQx0r => exact fun _ _ _ h => h
          case hwx0r => rfl
          case hyx0r =>
            intro W hW
            go_simp
            try with_reducible rfl
          simp only [Act.put, List.setIfInBounds_toArray, List.set_cons_succ, List.set_cons_zero]
          refine' wpAnyH_take (i := 1) ?h1x1r ?hsx1r ?hfx1r ?hrx1r ?hQx1r (Or.inl ⟨?hwx1r, ?hyx1r⟩) hS ?restx1r
          case h1x1r => (simp only [List.getElem?_toArray, List.getElem?_cons_succ, List.getElem?_cons_zero]; rfl)
          case hsx1r | hfx1r | hrx1r => kernel_rfl
          case hQx1r => exact fun _ _ _ h => h
          case hwx1r => rfl
          case hyx1r =>
            intro W hW
            go_simp
            try with_reducible rfl
          simp only [Act.put, List.setIfInBounds_toArray, List.set_cons_succ, List.set_cons_zero]
          refine' wpAnyH_take (i := 2) ?h1x2r ?hsx2r ?hfx2r ?hrx2r ?hQx2r (Or.inl ⟨?hwx2r, ?hyx2r⟩) hS ?restx2r
          case h1x2r => (simp only [List.getElem?_toArray, List.getElem?_cons_succ, List.getElem?_cons_zero]; rfl)
          case hsx2r | hfx2r | hrx2r => kernel_rfl
          case hQx2r => exact fun _ _ _ h => h
          case hwx2r => rfl
          case hyx2r =>
            intro W hW
            go_simp
            try with_reducible rfl
          simp only [Act.put, List.setIfInBounds_toArray, List.set_cons_succ, List.set_cons_zero]
          refine' wpAnyH_take (i := 3) ?h1x3r ?hsx3r ?hfx3r ?hrx3r ?hQx3r (yieldsIf_load_mid ?hwx3r 67 (.tmp 18) ?hopx3r b (o + i * 33) rfl (.int .u32 s :: zs.map (Value.int .u8)) _ (fun W hW => range_below RX.out LB.out hW) Try.underlying67 rfl ?hix3r) hS ?restx3r
          case h1x3r => (simp only [List.getElem?_toArray, List.getElem?_cons_succ, List.getElem?_cons_zero]; rfl)
          case hopx3r => rfl
          case hsx3r | hfx3r | hrx3r => kernel_rfl
          case hQx3r => exact fun _ _ _ h => h
          case hwx3r => rfl
          case hix3r => exact IX.out
          simp only [Act.put, List.setIfInBounds_toArray, List.set_cons_succ, List.set_cons_zero]
          refine' wpAnyH_take (i := 4) ?h1x4r ?hsx4r ?hfx4r ?hrx4r ?hQx4r (Or.inl ⟨?hwx4r, ?hyx4r⟩) hS ?restx4r
          case h1x4r => (simp only [List.getElem?_toArray, List.getElem?_cons_succ, List.getElem?_cons_zero]; rfl)
          case hsx4r | hfx4r | hrx4r => kernel_rfl
          case hQx4r => exact fun _ _ _ h => h
          case hwx4r => rfl
          case hyx4r =>
            intro W hW
            go_simp
            try with_reducible rfl
          simp only [Act.put, List.setIfInBounds_toArray, List.set_cons_succ, List.set_cons_zero]
          refine' wpAnyH_take (i := 5) ?h1x5r ?hsx5r ?hfx5r ?hrx5r ?hQx5r (Or.inl ⟨?hwx5r, ?hyx5r⟩) hS ?restx5r
          case h1x5r => (simp only [List.getElem?_toArray, List.getElem?_cons_succ, List.getElem?_cons_zero]; rfl)
          case hsx5r | hfx5r | hrx5r => kernel_rfl
          case hQx5r => exact fun _ _ _ h => h
          case hwx5r => rfl
          case hyx5r =>
            intro W hW
            go_simp
            try with_reducible rfl
          simp only [Act.put, List.setIfInBounds_toArray, List.set_cons_succ, List.set_cons_zero]
          refine' wpAnyH_take (i := 6) ?h1x6r ?hsx6r ?hfx6r ?hrx6r ?hQx6r (Or.inl ⟨?hwx6r, ?hyx6r⟩) hS ?restx6r
          case h1x6r => (simp only [List.getElem?_toArray, List.getElem?_cons_succ, List.getElem?_cons_zero]; rfl)
          case hsx6r | hfx6r | hrx6r => kernel_rfl
          case hQx6r => exact fun _ _ _ h => h
          case hwx6r => rfl
          case hyx6r =>
            intro W hW
            go_simp
            try with_reducible rfl
          simp only [Act.put, List.setIfInBounds_toArray, List.set_cons_succ, List.set_cons_zero]
          refine' wpAnyH_take (i := 7) ?h1x7r ?hsx7r ?hfx7r ?hrx7r ?hQx7r (yieldsIf_load_mid ?hwx7r 67 (.tmp 22) ?hopx7r b' (o' + i * 33) rfl (.int .u32 s' :: zs'.map (Value.int .u8)) _ (fun W hW => range_below RY.out LB'.out hW) Try.underlying67 rfl ?hix7r) hS ?restx7r
          case h1x7r => (simp only [List.getElem?_toArray, List.getElem?_cons_succ, List.getElem?_cons_zero]; rfl)
          case hopx7r => rfl
          case hsx7r | hfx7r | hrx7r => kernel_rfl
          case hQx7r => exact fun _ _ _ h => h
          case hwx7r => rfl
          case hix7r => exact IY.out
          simp only [Act.put, List.setIfInBounds_toArray, List.set_cons_succ, List.set_cons_zero]
          refine' wpAnyH_take (i := 8) ?h1x8r ?hsx8r ?hfx8r ?hrx8r ?hQx8r (Or.inl ⟨?hwx8r, ?hyx8r⟩) hS ?restx8r
          case h1x8r => (simp only [List.getElem?_toArray, List.getElem?_cons_succ, List.getElem?_cons_zero]; rfl)
          case hsx8r | hfx8r | hrx8r => kernel_rfl
          case hQx8r => exact fun _ _ _ h => h
          case hwx8r => rfl
          case hyx8r =>
            intro W hW
            have eq := EQ.out W
            go_simp
            try with_reducible rfl
          simp only [Act.put, List.setIfInBounds_toArray, List.set_cons_succ, List.set_cons_zero]
          refine wpAnyH_done (by kernel_rfl) ?_ _
          clear hS
          go_wp2_with fail
          go_ret
          exact ⟨by rw [FN.out]; rfl, HBW.out.drew⟩
      · have hge : ¬ (i : Int) < (n : Int) := by omega
        have FY : Hid (decide (xs = ys) = true) := decide_eq_true (HEQ.out (fun j hj => HALL.out j (by omega)))
        go_wp2_with fail
        go_ret
        exact ⟨by rw [FY.out]; rfl, HBW.out⟩
  · have FN : Hid (decide (xs = ys) = false) := decide_eq_false (fun e => hne (by rw [e]))
    obtain ⟨n, hn⟩ : ∃ n, n = xs.length := ⟨_, rfl⟩
    obtain ⟨m, hm⟩ : ∃ m, m = ys.length := ⟨_, rfl⟩
    rw [← hn, ← hm] at hne
    rw [← hn, ← hm]
    have hnm : ¬ (n : Int) = (m : Int) := by omega
    have hbm : ((n : Int) != (m : Int)) = true := by simpa using hnm
    clear h1 h2 h2' h4 h4' hE hn hm
    go_enter Try.func36, Try.ntmps36
    go_wp2_with fail
    go_ret
    exact ⟨by rw [FN.out]; rfl, Below.refl _ _⟩
end Go.Proofs.Ytnifaldgofmciaa
