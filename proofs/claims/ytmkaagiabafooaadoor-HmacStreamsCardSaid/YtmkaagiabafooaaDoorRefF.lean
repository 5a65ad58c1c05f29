/-
  Slices of texts that came in; contracts: texts, one behind the other; are texts too much? Condition: the slices read as texts.
-/
import Derived.Test.YtmkaagiabafooaaDoorRefE
import Derived.Test.YtmkaagiabafooaaDoorLaid
import Derived.Deep.Matrix
namespace Go.Proofs.YtmkaagiabafooaaDoor
open Go.RowKit Go.WideShapes Go.ChangeAt
/-- The slice v reads, in w, as texts, however many. -/
def SeesM (w : World) (v : Value) (xss : List (List Int)) : Prop :=
  (∃ x cap, v = .slice x 0 cap ∧ xss = []) ∨ ∃ b o cap, v = .slice (some ⟨b, o, none⟩) xss.length cap ∧ xss ≠ [] ∧ xss.length ≤ maxLen ∧ xss.length ≤ cap ∧ ∀ i, i < xss.length → ∃ u, w.cell? ⟨b, o + i, none⟩ = some u ∧ Sees w u (xss.getD i [])
theorem SeesM.few {w : World} {v : Value} {xss : List (List Int)} (h : SeesM w v xss) (hl : xss.length ≤ 1125899906842624) : SeesL w v xss := by
  rcases h with h | ⟨b, o, cap, h1, _, h2, _, h3⟩
  · exact .inl h
  · exact .inr ⟨b, o, cap, h1, hl, h3⟩
theorem cells22 : Tryd.prog.cellsOf 22 = 1 := by kernel_rfl
theorem open_texts {H : Type} {enc : TypeId × Value → H} {w : World} {r : Reach} {b0 base : Nat} {v : Value} {d : DataW H} {ps : List MemPlace}
    (hval : Value.okWide Tryd.prog w r b0 23 v) (hd : DataW.Trod enc Tryd.prog w base (fun _ => true) true 23 v d ps) : ∃ xss, SeesM w v xss := by
  obtain ⟨fuel, hf⟩ := hd
  have hv : ∀ c : Value, v.cells.toList = [c] → (∃ x l k, c = .slice x l k) → v = c := by
    intro c hc ⟨x, l, k, hx⟩
    obtain ⟨x', l', k', rfl⟩ := okWide_slice Tryd.underlying23 hval
    simpa [Value.cells] using hc
  rcases Deep.open_int_rows Tryd.underlying23 Tryd.underlying22 Tryd.underlying5 cells22 cells5 hf with ⟨hc, _⟩ | ⟨a, len, cap, A, L, C, Z, hc, _, hl, hm, _, hcell⟩
  · exact ⟨[], .inl ⟨_, _, hv _ hc ⟨_, _, _, rfl⟩, rfl⟩⟩
  · have hvv := hv _ hc ⟨_, _, _, rfl⟩
    subst hvv
    by_cases h0 : len = 0
    · subst h0; exact ⟨[], .inl ⟨_, _, rfl, rfl⟩⟩
    · have hplain : ∃ b o, a = ⟨b, o, none⟩ ∧ ∀ i, a.add i = ⟨b, o + i, none⟩ := by
        obtain ⟨b, o, spot⟩ := a
        have hspot : spot = none := by simpa [Addr.add] using World.cell?_spot (hcell 0 (by omega)).1
        subst hspot
        exact ⟨b, o, rfl, fun i => addr_add b o i⟩
      obtain ⟨b, o, rfl, hadd⟩ := hplain
      refine ⟨(List.range len).map fun r => (Z r).take (L r), .inr ⟨b, o, cap, by simp, ?_, by simp; omega, by simpa using hl, fun i hi => ?_⟩⟩
      · intro e
        have := congrArg List.length e
        simp at this; omega
      · simp only [List.length_map, List.length_range] at hi
        obtain ⟨e1, e2, e3, e4, e5, e6, e7⟩ := hcell i (by omega)
        rw [hadd] at e1
        refine ⟨_, e1, ?_⟩
        have hg : ((List.range len).map fun r => (Z r).take (L r)).getD i [] = (Z i).take (L i) := by simp [List.getD, hi]
        rw [hg]
        have hb : Byt ((Z i).take (L i)) := fun x hx => bounds_u8 (e5 x (List.mem_of_mem_take hx))
        refine ⟨hb, ?_⟩
        have hlz : ((Z i).take (L i)).length = L i := by rw [List.length_take]; omega
        cases hA : A i with
        | none =>
          have hC := e6 hA
          have : L i = 0 := by omega
          exact .inl ⟨by rw [this, hC], by rw [this, List.take_zero]⟩
        | some a' =>
          by_cases hL0 : L i = 0
          · exact .inr (.inl ⟨a', C i, by rw [hL0], by rw [hL0, List.take_zero], e3⟩)
          · obtain ⟨_, hc'⟩ := e7 a' hA
            obtain ⟨b', o', rfl, h2⟩ := ints_at (zs := Z i) (fun c hc => hc' c (by omega)) (by omega)
            refine .inr (.inr ⟨b', o', C i, by rw [hlz], fun e => hL0 (by rw [← hlz, e]; rfl), by omega, e3, fun j hj => ?_⟩)
            rw [hlz] at hj
            rw [h2 j (by omega)]
            simp [nth, List.getD, List.getElem?_take_of_lt hj]
/-- Are texts too much? -/
def greatB (xss : List (List Int)) : Bool := decide (12 < xss.length) || xss.any fun x => decide (400 < x.length)
theorem greatB_no {xss : List (List Int)} (h : greatB xss = false) : xss.length ≤ 12 ∧ ∀ i, i < xss.length → (xss.getD i []).length ≤ 400 := by
  unfold greatB at h
  rw [Bool.or_eq_false_iff] at h
  refine ⟨by have := of_decide_eq_false h.1; omega, fun i hi => ?_⟩
  have h2 := List.any_eq_false.1 h.2 xss[i] (List.getElem_mem hi)
  have e : xss.getD i [] = xss[i] := by simp [List.getD, hi]
  rw [e]; simp at h2; omega
theorem greatB_yes {xss : List (List Int)} (i : Nat) (hi : i < xss.length) (h : 400 < (xss.getD i []).length) : greatB xss = true := by
  have e : xss.getD i [] = xss[i] := by simp [List.getD, hi]
  unfold greatB
  rw [Bool.or_eq_true, List.any_eq_true]
  exact .inr ⟨xss[i], List.getElem_mem hi, by rw [← e]; simpa using h⟩
theorem flat_bound : ∀ (xss : List (List Int)), (∀ x ∈ xss, x.length ≤ 400) → xss.flatten.length ≤ 400 * xss.length
  | [], _ => by simp
  | x :: l, h => by
    have h1 := h x (by simp)
    have h2 := flat_bound l (fun y hy => h y (by simp [hy]))
    rw [List.flatten_cons, List.length_append, List.length_cons]; omega
theorem great_flat {xss : List (List Int)} (h : greatB xss = false) : xss.flatten.length ≤ 4800 := by
  obtain ⟨h1, h2⟩ := greatB_no h
  have := flat_bound xss (fun x hx => by
    obtain ⟨i, hi, rfl⟩ := List.getElem_of_mem hx
    have := h2 i hi
    simpa [List.getD, hi] using this)
  omega
set_option maxRecDepth 100000 in
set_option maxHeartbeats 4000000 in
theorem greatD (v : Value) (xss : List (List Int)) (w : World) (h : SeesM w v xss) : Calls Tryd.prog 12 #[v] w fun e w' => e = .returned (.bool (greatB xss)) ∧ w = w' := by
  rcases h with ⟨x, cap, rfl, rfl⟩ | ⟨b, o, cap, rfl, h0, hm, _, hc⟩
  · have hg : Hid (greatB [] = false) := rfl
    go_enter Tryd.func12, Tryd.ntmps12
    go_wp2_with fail
    refine wp_loop_rounds 1 ?_
    rw [rounds_succ]
    go_wp2_with fail
    go_ret
    exact ⟨by rw [hg.out]; rfl, rfl⟩
  · unfold maxLen at hm
    have hp : 0 < xss.length := List.length_pos_iff.2 h0
    by_cases h12 : 12 < xss.length
    · have hg : Hid (greatB xss = true) := by show _ = _; unfold greatB; simp [h12]
      generalize xss.length = n at *
      have h12' : (12 : Int) < n := by omega
      have hp' : (0 : Int) < n := by omega
      clear hc h0
      go_enter Tryd.func12, Tryd.ntmps12
      go_wp2_with fail
      refine wp_loop_rounds 1 ?_
      rw [rounds_succ]
      go_wp2_with fail
      go_ret
      exact ⟨by rw [hg.out]; rfl, rfl⟩
    · have HC := Lib.hid hc
      have HY : Hid (∀ i, i < xss.length → 400 < (xss.getD i []).length → greatB xss = true) := fun i hi h => greatB_yes i hi h
      have HN : Hid ((∀ i, i < xss.length → (xss.getD i []).length ≤ 400) → greatB xss = false) := fun h => by
        unfold greatB
        rw [Bool.or_eq_false_iff]
        refine ⟨by simpa using h12, List.any_eq_false.2 fun x hx => ?_⟩
        obtain ⟨i, hi, rfl⟩ := List.getElem_of_mem hx
        have := h i hi
        simpa [List.getD, hi] using this
      obtain ⟨n, hn⟩ : ∃ n, n = xss.length := ⟨_, rfl⟩
      rw [← hn]
      have HNN := Lib.hid hn
      have h12' : ¬ (12 : Int) < n := by omega
      have hnb : n ≤ 12 := by omega
      clear hc h0 hm hp h12 hn
      go_enter Tryd.func12, Tryd.ntmps12
      go_wp2_with fail
      go_loop [3] (fun vi => ∃ k : Nat, k ≤ n ∧ vi = .int .i64 k ∧ ∀ i, i < k → (xss.getD i []).length ≤ 400) (fun vi => n - (intOf vi).toNat)
      case atStart => exact ⟨0, by omega, rfl, fun i hi => by omega⟩
      case round =>
        obtain ⟨k, hk, rfl, hall⟩ := hrel
        have HALL := Lib.hid hall
        clear hall
        by_cases hlt : k < n
        · obtain ⟨u, hu, hs⟩ := HC.out k (by rw [← HNN.out]; exact hlt)
          obtain ⟨x, c, rfl, hl⟩ := hs.form
          have HYk := Lib.hid (HY.out k (by rw [← HNN.out]; exact hlt))
          have HL : Hid (∀ i, i < k + 1 → (xss.getD k []).length ≤ 400 → (xss.getD i []).length ≤ 400) := fun i hi h => by
            rcases Nat.lt_or_ge i k with h' | h'
            · exact HALL.out i h'
            · obtain rfl : i = k := by omega
              exact h
          clear hs
          generalize (xss.getD k []).length = m at *
          by_cases h4 : 400 < m
          · have h4' : (400 : Int) < m := by omega
            have HG := Lib.hid (HYk.out h4)
            go_wp2_with fail
            go_ret
            exact ⟨by rw [HG.out]; rfl, rfl⟩
          · have h4' : ¬ (400 : Int) < m := by omega
            go_wp2_with fail
            go_round
            case rel => exact ⟨k + 1, by omega, by go_num, fun i hi => HL.out i hi (by omega)⟩
            case measure => simp [intOf]; omega
        · have HG : Hid (greatB xss = false) := HN.out fun i hi => HALL.out i (by have := HNN.out; omega)
          go_wp2_with fail
          go_ret
          exact ⟨by rw [HG.out]; rfl, rfl⟩
set_option maxRecDepth 100000 in
set_option maxHeartbeats 4000000 in
theorem joinD (v : Value) (xss : List (List Int)) (w : World) (h : SeesL w v xss) (hl : xss.flatten.length ≤ 1000000) : Calls Tryd.prog 17 #[v] w (OwnP w xss.flatten) := by
  rcases h with ⟨x, cap, rfl, rfl⟩ | ⟨b, o, cap, rfl, hm, hc⟩
  · go_enter Tryd.func17, Tryd.ntmps17
    go_wp2_with fail
    refine wp_loop_rounds 1 ?_
    rw [rounds_succ]
    go_wp2_with fail
    go_ret
    exact ⟨_, _, rfl, own_nil _ _, Below.refl _ _⟩
  · have HC := Lib.hid hc
    have HLE : Hid (∀ k, ((xss.take k).flatten).length ≤ 1000000) := fun k => Nat.le_trans (flat_le xss k) hl
    have HFT : Hid (∀ k, k < xss.length → (xss.take (k + 1)).flatten = (xss.take k).flatten ++ xss.getD k []) := fun k hk => flat_take xss k hk
    have HFE : Hid ((xss.take xss.length).flatten = xss.flatten) := by show _ = _; rw [List.take_length]
    obtain ⟨n, hn⟩ : ∃ n, n = xss.length := ⟨_, rfl⟩
    rw [← hn] at HFT HFE ⊢
    have hb0 : n = 0 ∨ b < w.heap.size := by
      rcases Nat.eq_zero_or_pos n with h | h
      · exact .inl h
      · obtain ⟨u, hu, _⟩ := hc 0 (by omega)
        exact .inr (World.block_lt_of_cell? w _ hu)
    have HNN := Lib.hid hn
    have HB0 := Lib.hid hb0
    have hnb : n ≤ 1125899906842624 := by omega
    clear hc hm hl hn hb0
    go_enter Tryd.func17, Tryd.ntmps17
    go_wp2_with fail
    go_loopw [3, 4] (fun v vi wr => ∃ (k : Nat) (q : Option Addr) (c l : Nat), k ≤ n ∧ vi = .int .i64 k ∧ v = .slice q l c ∧ l = ((xss.take k).flatten).length ∧ Own wr w.heap.size (.slice q l c) ((xss.take k).flatten) ∧ Below w.heap.size w wr) (fun _ vi _ => n - (intOf vi).toNat)
    case atStart => exact ⟨0, none, 0, 0, by omega, rfl, rfl, rfl, own_nil _ _, Below.refl _ _⟩
    case round =>
      obtain ⟨k, q, c, l, hk, rfl, rfl, hll, ho, hb⟩ := hrel
      have HLL := Lib.hid hll
      clear hll
      by_cases hlt : k < n
      · obtain ⟨u, hu, hs⟩ := HC.out k (by rw [← HNN.out]; exact hlt)
        have hu' : wr.cell? ⟨b, o + k, none⟩ = some u := by rw [hb.cell (p := ⟨b, o + k, none⟩) (by rcases HB0.out with h | h; · omega
                                                                                                    · exact h)]; exact hu
        have hle := HLE.out (k + 1)
        rw [HFT.out k hlt, List.length_append] at hle
        obtain ⟨x5, c5, w5, hr5, ho5, hg5, hb5⟩ := app ho (hs.below hb) (by omega) hb.size
        rw [← HFT.out k hlt] at ho5
        rw [← HLL.out] at hr5 ho5
        have HR5 := Lib.hid hr5
        have HO5 := Lib.hid ho5
        have HB5 := Lib.hid (hb.trans hb5)
        have HL5 : Hid (l + (xss.getD k []).length = ((xss.take (k + 1)).flatten).length) := by show _ = _; rw [HFT.out k hlt, List.length_append, HLL.out]
        clear hu hs hle hr5 ho5 hg5 hb5 ho hb
        go_wp2_with (at_builtin; refine wpList_app rfl (.tmp 11) (.tmp 15) rfl rfl rfl rfl HR5.out ?_)
        go_roundw
        case rel => exact ⟨k + 1, x5, c5, _, by omega, by go_num, rfl, HL5.out, HO5.out, HB5.out⟩
        case measure => simp [intOf]; omega
      · obtain rfl : k = n := by omega
        have HO := Lib.hid ho
        have HB := Lib.hid hb
        clear ho hb
        go_wp2_with fail
        go_ret
        rw [HFE.out] at HO HLL
        have e := HLL.out
        unfold OwnP
        rw [← e]
        exact ⟨_, _, rfl, HO.out, HB.out⟩
end Go.Proofs.YtmkaagiabafooaaDoor
