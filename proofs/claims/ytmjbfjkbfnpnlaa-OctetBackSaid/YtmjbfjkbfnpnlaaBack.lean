/-
  For every slice l of numbers of 64 digits and every slice widths of bytes the law OctetBack of package casematelaw01 returns true, and the arguments read afterwards as before: numbers go there and back, one behind the other, in whatever order of widths. Condition: none.
-/
import Derived.Test.YtmjbfjkbfnpnlaaH
import Derived.Test.YtmjbfjkbfnpnlaaL
import Derived.Deep.RegionHeld3
import Derived.Deep.DrawnRows
namespace Go.Proofs.Ytmjbfjkbfnpnlaa
open Go.RowKit
theorem RD.drew {w : World} {g : Nat} {xs : List Int} {s : Bool} (h : RD w g xs s) : RD w.drew g xs s := h

theorem RD.below {w w' : World} {g : Nat} {xs : List Int} {s : Bool} (h : RD w g xs s) (hb : Below w.heap.size w w') : RD w' g xs s := by
  obtain ⟨h1, b, o, cap, hg, hne, hl, hm, hc⟩ := h
  exact ⟨h1, b, o, cap, (hb.block g (Array.getElem?_eq_some_iff.1 hg).1).trans hg, hne, hl, hm, fun i hi => (hb.cell (World.block_lt_of_cell? w _ (hc i hi))).trans (hc i hi)⟩
end Go.Proofs.Ytmjbfjkbfnpnlaa
namespace Go.Proofs.Ytmjbfjkbfnpnlaa.octetBack
open Go.ChangeShapes Go.WideShapes Go.ChangeAt Go.RowKit
attribute [local go_sem ↓] Go.wp_at_zero Go.wp_at_succ

/-- The slice v reads, in w, as the numbers ls of 64 digits. -/
def SeesW (w : World) (v : Value) (ls : List Int) : Prop :=
  (∀ x ∈ ls, 0 ≤ x ∧ x ≤ 18446744073709551615) ∧ ((v = .slice none 0 0 ∧ ls = []) ∨ (∃ a cap, v = .slice (some a) 0 cap ∧ ls = [] ∧ cap ≤ maxLen) ∨
    ∃ b o cap, v = .slice (some ⟨b, o, none⟩) ls.length cap ∧ ls ≠ [] ∧ ls.length ≤ cap ∧ cap ≤ maxLen ∧ ∀ i, i < ls.length → w.cell? ⟨b, o + i, none⟩ = some (.int .u64 (nth ls i)))

theorem cells24 : Try.prog.cellsOf 24 = 1 := by kernel_rfl

theorem open_words {H : Type} {enc : TypeId × Value → H} {w : World} {r : Reach} {b0 base : Nat} {v : Value} {d : DataW H} {ps : List MemPlace}
    (hval : Value.okWide Try.prog w r b0 63 v) (hd : DataW.Trod enc Try.prog w base (fun _ => true) true 63 v d ps) : ∃ ls, SeesW w v ls := by
  obtain ⟨fuel, hf⟩ := hd
  have hv : ∀ c : Value, v.cells.toList = [c] → (∃ x l k, c = .slice x l k) → v = c := by
    intro c hc ⟨x, l, k, hx⟩
    obtain ⟨x', l', k', rfl⟩ := okWide_slice Try.underlying63 hval
    simpa [Value.cells] using hc
  rcases open_ints Try.underlying63 Try.underlying24 cells24 hf with ⟨hc, _⟩ | ⟨a, len, cap, zs, hc, _, hl, hm, hlen, _, hcell, hwf⟩
  · exact ⟨[], by rw [hv _ hc ⟨_, _, _, rfl⟩]; exact ⟨fun _ h => by simp at h, .inl ⟨rfl, rfl⟩⟩⟩
  · have hvv := hv _ hc ⟨_, _, _, rfl⟩
    subst hvv
    rw [if_pos rfl] at hlen
    refine ⟨zs.take len, fun x hx => bounds_u64 (hwf x (List.mem_of_mem_take hx)), ?_⟩
    by_cases h0 : len = 0
    · subst h0
      exact .inr (.inl ⟨a, cap, rfl, by simp, hm⟩)
    · obtain ⟨b, o, rfl, h2⟩ := ints_at hcell (by omega)
      have hlz : (zs.take len).length = len := by rw [List.length_take]; omega
      refine .inr (.inr ⟨b, o, cap, by rw [hlz], fun e => h0 (by rw [← hlz, e]; rfl), by omega, hm, fun i hi => ?_⟩)
      rw [hlz] at hi
      rw [h2 i (by omega)]
      simp [nth, List.getD, List.getElem?_take_of_lt hi]

theorem SeesW.form {w : World} {v : Value} {xs : List Int} (h : SeesW w v xs) : ∃ x cap, v = .slice x xs.length cap ∧ xs.length ≤ 9223372036854775807 := by
  obtain ⟨h1, ⟨rfl, rfl⟩ | ⟨a, cap, rfl, rfl, _⟩ | ⟨b, o, cap, rfl, h3, h4, h5, h6⟩⟩ := h
  · exact ⟨_, _, rfl, by simp⟩
  · exact ⟨_, _, rfl, by simp⟩
  · unfold maxLen at h5
    exact ⟨_, _, rfl, by omega⟩

theorem SeesW.below {w w' : World} {v : Value} {xs : List Int} (h : SeesW w v xs) (hb : Below w.heap.size w w') : SeesW w' v xs := by
  obtain ⟨h1, h2 | h2 | ⟨b, o, cap, rfl, h3, h4, h5, h6⟩⟩ := h
  · exact ⟨h1, .inl h2⟩
  · exact ⟨h1, .inr (.inl h2)⟩
  · refine ⟨h1, .inr (.inr ⟨b, o, cap, rfl, h3, h4, h5, fun i hi => ?_⟩)⟩
    have := h6 i hi
    rw [hb.cell (World.block_lt_of_cell? w _ this)]
    exact this

/-- Where there is a k-th one: its cell. -/
theorem SeesW.at {w : World} {x : Option Addr} {cap k : Nat} {xs : List Int} (h : SeesW w (.slice x xs.length cap) xs) (hk : k < xs.length) :
    ∃ b o, x = some ⟨b, o, none⟩ ∧ b < w.heap.size ∧ w.cell? ⟨b, o + k, none⟩ = some (.int .u64 (nth xs k)) ∧ 0 ≤ nth xs k ∧ nth xs k ≤ 18446744073709551615 := by
  have hr : 0 ≤ nth xs k ∧ nth xs k ≤ 18446744073709551615 := by
    have e : nth xs k = xs[k] := by simp [nth, List.getD, hk]
    rw [e]; exact h.1 _ (List.getElem_mem hk)
  obtain ⟨h1, ⟨_, rfl⟩ | ⟨_, _, _, rfl, _⟩ | ⟨b, o, c, hv, h3, h4, h5, h6⟩⟩ := h
  · simp at hk
  · simp at hk
  · simp only [Value.slice.injEq] at hv
    exact ⟨b, o, hv.1, World.block_lt_of_cell? w _ (h6 k hk), h6 k hk, hr.1, hr.2⟩
theorem sees_at {w : World} {x : Option Addr} {cap k : Nat} {xs : List Int} (h : Sees w (.slice x xs.length cap) xs) (hk : k < xs.length) :
    ∃ b o, x = some ⟨b, o, none⟩ ∧ b < w.heap.size ∧ w.cell? ⟨b, o + k, none⟩ = some (.int .u8 (nth xs k)) ∧ 0 ≤ nth xs k ∧ nth xs k ≤ 255 := by
  have hr := h.1.nth k
  obtain ⟨h1, ⟨_, rfl⟩ | ⟨_, _, _, rfl, _⟩ | ⟨b, o, c, hv, h3, h4, h5, h6⟩⟩ := h
  · simp at hk
  · simp at hk
  · simp only [Value.slice.injEq] at hv
    exact ⟨b, o, hv.1, World.block_lt_of_cell? w _ (h6 k hk), h6 k hk, hr.1, hr.2⟩

/-! ### The bytes of numbers, one behind the other -/
def wid (x : Int) : Nat := if x % 4 = 0 then 1 else if x % 4 = 1 then 2 else if x % 4 = 2 then 4 else 8
def cut (x : Int) (v : Int) : Int := v % 256 ^ wid x
def itm (ls ws : List Int) (i : Nat) : List Int := be (wid (nth ws i)) (cut (nth ws i) (nth ls i))
def enc (ls ws : List Int) : Nat → List Int
  | 0 => []
  | k + 1 => enc ls ws k ++ itm ls ws k
def tl (ls ws : List Int) (n k : Nat) : List Int := (enc ls ws n).drop (enc ls ws k).length
theorem wid_le (x : Int) : wid x ≤ 8 := by unfold wid; split <;> (try split) <;> (try split) <;> omega
theorem enc_len (ls ws : List Int) : ∀ k, (enc ls ws k).length ≤ 8 * k
  | 0 => by simp [enc]
  | k + 1 => by
    have := enc_len ls ws k
    have := wid_le (nth ws k)
    simp only [enc, itm, List.length_append, be_len]
    omega
theorem enc_tl (ls ws : List Int) (k : Nat) : ∀ n, k ≤ n → enc ls ws n = enc ls ws k ++ tl ls ws n k
  | 0, h => by
    obtain rfl : k = 0 := by omega
    simp [enc, tl]
  | n + 1, h => by
    by_cases e : k = n + 1
    · subst e; simp [tl]
    · have ih := enc_tl ls ws k n (by omega)
      unfold tl
      simp only [enc]
      rw [ih]
      simp
theorem tl_step (ls ws : List Int) (n k : Nat) (h : k < n) : tl ls ws n k = itm ls ws k ++ tl ls ws n (k + 1) := by
  have h1 := enc_tl ls ws k n (by omega)
  have h2 := enc_tl ls ws (k + 1) n (by omega)
  rw [h1] at h2
  simp only [enc, List.append_assoc] at h2
  exact List.append_cancel_left h2
theorem tl_end (ls ws : List Int) (n : Nat) : tl ls ws n n = [] := by simp [tl]
theorem numI_be : ∀ (n : Nat) (v : Int), 0 ≤ v → v < 256 ^ n → numI (be n v) = v
  | 0, v, h0, h1 => by simp at h1; simp [be, numI]; omega
  | n + 1, v, h0, h1 => by
    rw [Int.pow_succ] at h1
    rw [be, numI_snoc, numI_be n (v / 256) (by omega) (by omega)]
    omega
/-- The next number of what stands at the front. -/
theorem got_be (n : Nat) (v : Int) (r : List Int) (h0 : 0 ≤ v) (h1 : v < 256 ^ n) :
    getV (got (be n v ++ r) false n) 0 n = v ∧ rst (be n v ++ r) false n = r ∧ shrt (be n v ++ r).length false n = false := by
  have hs : shrt (be n v ++ r).length false n = false := by simp [shrt, be_len]; omega
  have hg : got (be n v ++ r) false n = be n v := by
    simp only [got, hs]
    simp [List.take_left' (be_len n v)]
  refine ⟨?_, ?_, hs⟩
  · rw [hg]
    simp only [getV, be_len]
    rw [if_neg (by omega), if_neg (by omega)]
    simp only [Int.toNat_zero, List.drop_zero]
    rw [List.take_of_length_le (by rw [be_len]; omega), numI_be n v h0 h1]
  · simp only [rst, hs]
    simp [List.drop_left' (be_len n v)]

theorem step8 (g : Nat) (v : Int) (h0 : 0 ≤ v) (h1 : v ≤ 255) (r : List Int) (W : World) (h : RD W g (be 1 v ++ r) false) (w : World) (B : Nat) (hb : Below B w W) (hg : B ≤ g) (a : Addr) (X : Value) (hc : W.cell? a = some X) (hne : a.block ≠ g) :
    Calls Try.prog 24 #[.pointer (some ⟨g, 0, none⟩)] W fun e w' => e = .returned (.int .u8 v) ∧ RD w' g r false ∧ Below B w w' ∧ w'.cell? a = some X := by
  have G := got_be 1 v r h0 (by omega)
  refine (u8 g _ false W h).mono ?_
  rintro e w' ⟨rfl, hr, hgr⟩
  have e1 : getV (got (be 1 v ++ r) false 1) 0 1 = v := G.1
  have e2 : rst (be 1 v ++ r) false 1 = r := G.2.1
  have e3 : shrt (be 1 v ++ r).length false 1 = false := G.2.2
  rw [e2, e3] at hr
  rw [e1]
  have hsz : B ≤ W.heap.size := by
    obtain ⟨_, _, _, _, hh, _⟩ := h
    have := (Array.getElem?_eq_some_iff.1 hh).1
    omega
  exact ⟨rfl, hr, hb.grown hgr hsz (fun k e => by injection e with e; omega), hgr.cell hc (fun e => hne (by injection e))⟩
theorem step16 (g : Nat) (v : Int) (h0 : 0 ≤ v) (h1 : v ≤ 65535) (r : List Int) (W : World) (h : RD W g (be 2 v ++ r) false) (w : World) (B : Nat) (hb : Below B w W) (hg : B ≤ g) (a : Addr) (X : Value) (hc : W.cell? a = some X) (hne : a.block ≠ g) :
    Calls Try.prog 27 #[.pointer (some ⟨g, 0, none⟩)] W fun e w' => e = .returned (.int .u16 v) ∧ RD w' g r false ∧ Below B w w' ∧ w'.cell? a = some X := by
  have G := got_be 2 v r h0 (by omega)
  refine (u16 g _ false W h).mono ?_
  rintro e w' ⟨rfl, hr, hgr⟩
  have e1 : getV (got (be 2 v ++ r) false 2) 0 2 = v := G.1
  have e2 : rst (be 2 v ++ r) false 2 = r := G.2.1
  have e3 : shrt (be 2 v ++ r).length false 2 = false := G.2.2
  rw [e2, e3] at hr
  rw [e1]
  have hsz : B ≤ W.heap.size := by
    obtain ⟨_, _, _, _, hh, _⟩ := h
    have := (Array.getElem?_eq_some_iff.1 hh).1
    omega
  exact ⟨rfl, hr, hb.grown hgr hsz (fun k e => by injection e with e; omega), hgr.cell hc (fun e => hne (by injection e))⟩
theorem step32 (g : Nat) (v : Int) (h0 : 0 ≤ v) (h1 : v ≤ 4294967295) (r : List Int) (W : World) (h : RD W g (be 4 v ++ r) false) (w : World) (B : Nat) (hb : Below B w W) (hg : B ≤ g) (a : Addr) (X : Value) (hc : W.cell? a = some X) (hne : a.block ≠ g) :
    Calls Try.prog 28 #[.pointer (some ⟨g, 0, none⟩)] W fun e w' => e = .returned (.int .u32 v) ∧ RD w' g r false ∧ Below B w w' ∧ w'.cell? a = some X := by
  have G := got_be 4 v r h0 (by omega)
  refine (u32 g _ false W h).mono ?_
  rintro e w' ⟨rfl, hr, hgr⟩
  have e1 : getV (got (be 4 v ++ r) false 4) 0 4 = v := G.1
  have e2 : rst (be 4 v ++ r) false 4 = r := G.2.1
  have e3 : shrt (be 4 v ++ r).length false 4 = false := G.2.2
  rw [e2, e3] at hr
  rw [e1]
  have hsz : B ≤ W.heap.size := by
    obtain ⟨_, _, _, _, hh, _⟩ := h
    have := (Array.getElem?_eq_some_iff.1 hh).1
    omega
  exact ⟨rfl, hr, hb.grown hgr hsz (fun k e => by injection e with e; omega), hgr.cell hc (fun e => hne (by injection e))⟩
theorem step64 (g : Nat) (v : Int) (h0 : 0 ≤ v) (h1 : v ≤ 18446744073709551615) (r : List Int) (W : World) (h : RD W g (be 8 v ++ r) false) (w : World) (B : Nat) (hb : Below B w W) (hg : B ≤ g) (a : Addr) (X : Value) (hc : W.cell? a = some X) (hne : a.block ≠ g) :
    Calls Try.prog 29 #[.pointer (some ⟨g, 0, none⟩)] W fun e w' => e = .returned (.int .u64 v) ∧ RD w' g r false ∧ Below B w w' ∧ w'.cell? a = some X := by
  have G := got_be 8 v r h0 (by omega)
  refine (u64 g _ false W h).mono ?_
  rintro e w' ⟨rfl, hr, hgr⟩
  have e1 : getV (got (be 8 v ++ r) false 8) 0 8 = v := G.1
  have e2 : rst (be 8 v ++ r) false 8 = r := G.2.1
  have e3 : shrt (be 8 v ++ r).length false 8 = false := G.2.2
  rw [e2, e3] at hr
  rw [e1]
  have hsz : B ≤ W.heap.size := by
    obtain ⟨_, _, _, _, hh, _⟩ := h
    have := (Array.getElem?_eq_some_iff.1 hh).1
    omega
  exact ⟨rfl, hr, hb.grown hgr hsz (fun k e => by injection e with e; omega), hgr.cell hc (fun e => hne (by injection e))⟩

theorem walk_great (x y : Option Addr) (l c m d : Nat) (hl : l ≤ 9223372036854775807) (hg : 60 < l) (w : World) :
    Calls Try.prog 6 #[.slice x l c, .slice y m d] w fun e w' => e = .returned (.bool true) ∧ Below w.heap.size w w' := by
  go_enter Try.func6, Try.ntmps6
  go_wp2_with (go_at_call 8; refine (alive _).mono ?_; rintro e w1 ⟨rfl, hb⟩; have HB := Lib.hid hb; clear hb)
  go_ret
  exact ⟨rfl, HB.out⟩
set_option maxRecDepth 100000 in
set_option maxHeartbeats 8000000 in
theorem walk_small (v u : Value) (ls ws : List Int) (hl : ls.length ≤ 60) (w : World) (h : SeesW w v ls) (k : Sees w u ws) :
    Calls Try.prog 6 #[v, u] w fun e w' => e = .returned (.bool true) ∧ Below w.heap.size w w' := by
  obtain ⟨x, c, rfl, h63⟩ := h.form
  obtain ⟨y, d, rfl, h64⟩ := k.form
  have HL := Lib.hid h
  have HW := Lib.hid k
  clear h k
  go_enter Try.func6, Try.ntmps6
  go_wp2_with fail
  go_loopw [5, 6] (fun v i wr => ∃ (k : Nat) (x : Option Addr) (cap : Nat), k ≤ ls.length ∧ k ≤ ws.length ∧ i = .int .i64 k ∧ v = .slice x (enc ls ws k).length cap ∧ Own wr w.heap.size v (enc ls ws k) ∧ Below w.heap.size w wr) (fun _ i _ => 60 - (intOf i).toNat)
  case atStart => exact ⟨0, _, _, by omega, by omega, rfl, rfl, own_nil _ _, Below.refl _ _⟩
  case round =>
    obtain ⟨k, bx, bc, hk, hk2, rfl, rfl, ho, hb⟩ := hrel
    have HO := Lib.hid ho
    have HB := Lib.hid hb
    clear ho hb
    by_cases h1 : k < ls.length
    · by_cases h2 : k < ws.length
      · obtain ⟨lb, lo, rfl, _, lc, l0, l1⟩ := (HL.out.below HB.out).at h1
        obtain ⟨wb, wo, rfl, _, wc, w0, w1⟩ := sees_at (HW.out.below HB.out) h2
        have hlen := enc_len ls ws k
        have hcase : nth ws k % 4 = 0 ∨ nth ws k % 4 = 1 ∨ nth ws k % 4 = 2 ∨ nth ws k % 4 = 3 := by omega
        have HE : Hid (enc ls ws (k + 1) = enc ls ws k ++ be (wid (nth ws k)) (cut (nth ws k) (nth ls k))) := rfl
        rcases hcase with hc | hc | hc | hc
        · have HW1 : Hid (wid (nth ws k) = 1) := by show _ = _; simp [wid, hc]
          have HC1 : Hid (cut (nth ws k) (nth ls k) = (nth ls k % 256)) := by show _ = _; unfold cut; rw [HW1.out]; rfl
          go_wp2_with fail
          refine (putb8 (nth ls k % 256) (by omega) (by omega) _).mono ?_
          rintro e w2 ⟨g, rfl, hs, hb, _⟩
          obtain ⟨x3, c3, w3, hr, ho3, _, hb3⟩ := app (HO.out.below hb) hs (by rw [be_len]; omega) (by have := hb.size; have := HB.out.size; omega)
          rw [be_len] at hr
          have HR := Lib.hid hr
          have HO3 : Hid (Own w3 w.heap.size (.slice x3 (enc ls ws (k + 1)).length c3) (enc ls ws (k + 1))) := by
            show Own _ _ _ _
            rw [HE.out, HW1.out, HC1.out, List.length_append]
            exact ho3
          have HN : Hid ((enc ls ws k).length + 1 = (enc ls ws (k + 1)).length) := by show _ = _; rw [HE.out, HW1.out, List.length_append, be_len]
          have HB3 := Lib.hid ((HB.out.trans (hb.mono HB.out.size)).trans hb3)
          clear hr ho3 hb3 hs hb
          go_wp2_with (at_builtin; refine wpList_app rfl _ _ rfl rfl rfl rfl HR.out ?_)
          go_roundw
          case rel => exact ⟨k + 1, x3, c3, by omega, by omega, by go_num, by rw [HN.out], by rw [HN.out]; exact HO3.out, HB3.out⟩
          case measure => simp [intOf]; omega
        · have HW1 : Hid (wid (nth ws k) = 2) := by show _ = _; simp [wid, hc]
          have HC1 : Hid (cut (nth ws k) (nth ls k) = (nth ls k % 65536)) := by show _ = _; unfold cut; rw [HW1.out]; rfl
          go_wp2_with fail
          refine (putb16 (nth ls k % 65536) (by omega) (by omega) _).mono ?_
          rintro e w2 ⟨g, rfl, hs, hb, _⟩
          obtain ⟨x3, c3, w3, hr, ho3, _, hb3⟩ := app (HO.out.below hb) hs (by rw [be_len]; omega) (by have := hb.size; have := HB.out.size; omega)
          rw [be_len] at hr
          have HR := Lib.hid hr
          have HO3 : Hid (Own w3 w.heap.size (.slice x3 (enc ls ws (k + 1)).length c3) (enc ls ws (k + 1))) := by
            show Own _ _ _ _
            rw [HE.out, HW1.out, HC1.out, List.length_append]
            exact ho3
          have HN : Hid ((enc ls ws k).length + 2 = (enc ls ws (k + 1)).length) := by show _ = _; rw [HE.out, HW1.out, List.length_append, be_len]
          have HB3 := Lib.hid ((HB.out.trans (hb.mono HB.out.size)).trans hb3)
          clear hr ho3 hb3 hs hb
          go_wp2_with (at_builtin; refine wpList_app rfl _ _ rfl rfl rfl rfl HR.out ?_)
          go_roundw
          case rel => exact ⟨k + 1, x3, c3, by omega, by omega, by go_num, by rw [HN.out], by rw [HN.out]; exact HO3.out, HB3.out⟩
          case measure => simp [intOf]; omega
        · have HW1 : Hid (wid (nth ws k) = 4) := by show _ = _; simp [wid, hc]
          have HC1 : Hid (cut (nth ws k) (nth ls k) = (nth ls k % 4294967296)) := by show _ = _; unfold cut; rw [HW1.out]; rfl
          go_wp2_with fail
          refine (putb32 (nth ls k % 4294967296) (by omega) (by omega) _).mono ?_
          rintro e w2 ⟨g, rfl, hs, hb, _⟩
          obtain ⟨x3, c3, w3, hr, ho3, _, hb3⟩ := app (HO.out.below hb) hs (by rw [be_len]; omega) (by have := hb.size; have := HB.out.size; omega)
          rw [be_len] at hr
          have HR := Lib.hid hr
          have HO3 : Hid (Own w3 w.heap.size (.slice x3 (enc ls ws (k + 1)).length c3) (enc ls ws (k + 1))) := by
            show Own _ _ _ _
            rw [HE.out, HW1.out, HC1.out, List.length_append]
            exact ho3
          have HN : Hid ((enc ls ws k).length + 4 = (enc ls ws (k + 1)).length) := by show _ = _; rw [HE.out, HW1.out, List.length_append, be_len]
          have HB3 := Lib.hid ((HB.out.trans (hb.mono HB.out.size)).trans hb3)
          clear hr ho3 hb3 hs hb
          go_wp2_with (at_builtin; refine wpList_app rfl _ _ rfl rfl rfl rfl HR.out ?_)
          go_roundw
          case rel => exact ⟨k + 1, x3, c3, by omega, by omega, by go_num, by rw [HN.out], by rw [HN.out]; exact HO3.out, HB3.out⟩
          case measure => simp [intOf]; omega
        · have HW1 : Hid (wid (nth ws k) = 8) := by show _ = _; simp [wid, hc]
          have HC1 : Hid (cut (nth ws k) (nth ls k) = (nth ls k)) := by show _ = _; unfold cut; rw [HW1.out]; omega
          go_wp2_with fail
          refine (putb64 (nth ls k) (by omega) (by omega) _).mono ?_
          rintro e w2 ⟨g, rfl, hs, hb, _⟩
          obtain ⟨x3, c3, w3, hr, ho3, _, hb3⟩ := app (HO.out.below hb) hs (by rw [be_len]; omega) (by have := hb.size; have := HB.out.size; omega)
          rw [be_len] at hr
          have HR := Lib.hid hr
          have HO3 : Hid (Own w3 w.heap.size (.slice x3 (enc ls ws (k + 1)).length c3) (enc ls ws (k + 1))) := by
            show Own _ _ _ _
            rw [HE.out, HW1.out, HC1.out, List.length_append]
            exact ho3
          have HN : Hid ((enc ls ws k).length + 8 = (enc ls ws (k + 1)).length) := by show _ = _; rw [HE.out, HW1.out, List.length_append, be_len]
          have HB3 := Lib.hid ((HB.out.trans (hb.mono HB.out.size)).trans hb3)
          clear hr ho3 hb3 hs hb
          go_wp2_with (at_builtin; refine wpList_app rfl _ _ rfl rfl rfl rfl HR.out ?_)
          go_roundw
          case rel => exact ⟨k + 1, x3, c3, by omega, by omega, by go_num, by rw [HN.out], by rw [HN.out]; exact HO3.out, HB3.out⟩
          case measure => simp [intOf]; omega
      · have hn : ws.length ≤ k := by omega
        all_goals
        go_wp2_with fail
        refine (readn _ (enc ls ws k) (by have := enc_len ls ws k; omega) _ HO.out.sees).mono ?_
        rintro e w4 ⟨g, rfl, hr, hb, hgl⟩
        have R4 := Lib.hid hr
        have B4 := Lib.hid (HB.out.trans (hb.mono HB.out.size))
        have hg : w.heap.size ≤ g := by have := HB.out.size; omega
        have T0 : Hid (tl ls ws k 0 = enc ls ws k) := rfl
        clear hr hb hgl HO HB
        go_wp2_with fail
        go_loopw [8] (fun i wr => ∃ (j : Nat), j ≤ k ∧ i = .int .i64 j ∧ RD wr g (tl ls ws k j) false ∧ Below w.heap.size w wr) (fun i _ => k - (intOf i).toNat)
        case atStart => exact ⟨0, by omega, rfl, by rw [T0.out]; exact R4.out, B4.out⟩
        case round =>
          clear R4 B4 T0
          obtain ⟨j, hj, rfl, hr, hb⟩ := hrel
          have HR := Lib.hid hr
          have HB := Lib.hid hb
          clear hr hb
          by_cases hjk : j < k
          · obtain ⟨lb, lo, rfl, hlb, lc, l0, l1⟩ := (HL.out.below HB.out).at (k := j) (by omega)
            obtain ⟨wb, wo, rfl, _, wc, w0, w1⟩ := sees_at (HW.out.below HB.out) (k := j) (by omega)
            have hlg : lb ≠ g := by
              intro e
              have := HL.out.at (k := j) (by omega)
              obtain ⟨b2, o2, e2, h2, _⟩ := this
              simp only [Option.some.injEq, Addr.mk.injEq] at e2
              omega
            have p1 : j < ls.length := by omega
            have p2 : j < ws.length := by omega
            have hcase : nth ws j % 4 = 0 ∨ nth ws j % 4 = 1 ∨ nth ws j % 4 = 2 ∨ nth ws j % 4 = 3 := by omega
            have TS : Hid (tl ls ws k j = be (wid (nth ws j)) (cut (nth ws j) (nth ls j)) ++ tl ls ws k (j + 1)) := tl_step ls ws k j hjk
            rcases hcase with hc | hc | hc | hc
            · have HW1 : Hid (wid (nth ws j) = 1) := by show _ = _; simp [wid, hc]
              have HC1 : Hid (cut (nth ws j) (nth ls j) = (nth ls j % 256)) := by show _ = _; unfold cut; rw [HW1.out]; rfl
              have TR : Hid (tl ls ws k j = be 1 (nth ls j % 256) ++ tl ls ws k (j + 1)) := by show _ = _; rw [TS.out, HW1.out, HC1.out]
              have HR2 : Hid (RD wr.drew g (be 1 (nth ls j % 256) ++ tl ls ws k (j + 1)) false) := by show RD _ _ _ _; rw [← TR.out]; exact HR.out
              have HB2 : Hid (Below w.heap.size w wr.drew) := HB.out.drew
              have hwr : IntKind.u8.wrap (nth ls j) = nth ls j % 256 := by simp [IntKind.wrap, IntKind.bits, IntKind.signed]
              go_wp2_with fail
              go_region_held3 (fun W => W.cell? ⟨lb, lo + j, none⟩ = some (.int .u64 (nth ls j))) (first | assumption | exact lc)
                ((go_at_call 24; refine (step8 g (nth ls j % 256) (by omega) (by omega) _ _ HR2.out w w.heap.size HB2.out hg ⟨lb, lo + j, none⟩ _ lc hlg).mono ?_; rintro e w5 ⟨rfl, hr5, hb5, hS5⟩; have R5 := Lib.hid hr5; have B5 := Lib.hid hb5; clear hr5 hb5))
              try simp only [beq_self_eq_true]
              go_wp2_with fail
              go_roundw
              case rel => exact ⟨j + 1, by omega, by go_num, R5.out, B5.out⟩
              case measure => simp [intOf]; omega
            · have HW1 : Hid (wid (nth ws j) = 2) := by show _ = _; simp [wid, hc]
              have HC1 : Hid (cut (nth ws j) (nth ls j) = (nth ls j % 65536)) := by show _ = _; unfold cut; rw [HW1.out]; rfl
              have TR : Hid (tl ls ws k j = be 2 (nth ls j % 65536) ++ tl ls ws k (j + 1)) := by show _ = _; rw [TS.out, HW1.out, HC1.out]
              have HR2 : Hid (RD wr.drew g (be 2 (nth ls j % 65536) ++ tl ls ws k (j + 1)) false) := by show RD _ _ _ _; rw [← TR.out]; exact HR.out
              have HB2 : Hid (Below w.heap.size w wr.drew) := HB.out.drew
              have hwr : IntKind.u16.wrap (nth ls j) = nth ls j % 65536 := by simp [IntKind.wrap, IntKind.bits, IntKind.signed]
              go_wp2_with fail
              go_region_held3 (fun W => W.cell? ⟨lb, lo + j, none⟩ = some (.int .u64 (nth ls j))) (first | assumption | exact lc)
                ((go_at_call 27; refine (step16 g (nth ls j % 65536) (by omega) (by omega) _ _ HR2.out w w.heap.size HB2.out hg ⟨lb, lo + j, none⟩ _ lc hlg).mono ?_; rintro e w5 ⟨rfl, hr5, hb5, hS5⟩; have R5 := Lib.hid hr5; have B5 := Lib.hid hb5; clear hr5 hb5))
              try simp only [beq_self_eq_true]
              go_wp2_with fail
              go_roundw
              case rel => exact ⟨j + 1, by omega, by go_num, R5.out, B5.out⟩
              case measure => simp [intOf]; omega
            · have HW1 : Hid (wid (nth ws j) = 4) := by show _ = _; simp [wid, hc]
              have HC1 : Hid (cut (nth ws j) (nth ls j) = (nth ls j % 4294967296)) := by show _ = _; unfold cut; rw [HW1.out]; rfl
              have TR : Hid (tl ls ws k j = be 4 (nth ls j % 4294967296) ++ tl ls ws k (j + 1)) := by show _ = _; rw [TS.out, HW1.out, HC1.out]
              have HR2 : Hid (RD wr.drew g (be 4 (nth ls j % 4294967296) ++ tl ls ws k (j + 1)) false) := by show RD _ _ _ _; rw [← TR.out]; exact HR.out
              have HB2 : Hid (Below w.heap.size w wr.drew) := HB.out.drew
              have hwr : IntKind.u32.wrap (nth ls j) = nth ls j % 4294967296 := by simp [IntKind.wrap, IntKind.bits, IntKind.signed]
              go_wp2_with fail
              go_region_held3 (fun W => W.cell? ⟨lb, lo + j, none⟩ = some (.int .u64 (nth ls j))) (first | assumption | exact lc)
                ((go_at_call 28; refine (step32 g (nth ls j % 4294967296) (by omega) (by omega) _ _ HR2.out w w.heap.size HB2.out hg ⟨lb, lo + j, none⟩ _ lc hlg).mono ?_; rintro e w5 ⟨rfl, hr5, hb5, hS5⟩; have R5 := Lib.hid hr5; have B5 := Lib.hid hb5; clear hr5 hb5))
              try simp only [beq_self_eq_true]
              go_wp2_with fail
              go_roundw
              case rel => exact ⟨j + 1, by omega, by go_num, R5.out, B5.out⟩
              case measure => simp [intOf]; omega
            · have HW1 : Hid (wid (nth ws j) = 8) := by show _ = _; simp [wid, hc]
              have HC1 : Hid (cut (nth ws j) (nth ls j) = (nth ls j)) := by show _ = _; unfold cut; rw [HW1.out]; omega
              have TR : Hid (tl ls ws k j = be 8 (nth ls j) ++ tl ls ws k (j + 1)) := by show _ = _; rw [TS.out, HW1.out, HC1.out]
              have HR2 : Hid (RD wr.drew g (be 8 (nth ls j) ++ tl ls ws k (j + 1)) false) := by show RD _ _ _ _; rw [← TR.out]; exact HR.out
              have HB2 : Hid (Below w.heap.size w wr.drew) := HB.out.drew
              go_wp2_with fail
              go_region_held3 (fun W => W.cell? ⟨lb, lo + j, none⟩ = some (.int .u64 (nth ls j))) (first | assumption | exact lc)
                ((go_at_call 29; refine (step64 g (nth ls j) (by omega) (by omega) _ _ HR2.out w w.heap.size HB2.out hg ⟨lb, lo + j, none⟩ _ lc hlg).mono ?_; rintro e w5 ⟨rfl, hr5, hb5, hS5⟩; have R5 := Lib.hid hr5; have B5 := Lib.hid hb5; clear hr5 hb5))
              try simp only [beq_self_eq_true]
              go_wp2_with fail
              go_roundw
              case rel => exact ⟨j + 1, by omega, by go_num, R5.out, B5.out⟩
              case measure => simp [intOf]; omega
          · obtain rfl : j = k := by omega
            go_wp2_with fail
            refine (alive _).mono ?_
            rintro e w6 ⟨rfl, hb6⟩
            have R6 := Lib.hid (HR.out.below hb6)
            have B6 := Lib.hid (HB.out.trans (hb6.mono HB.out.size))
            clear hb6
            rw [tl_end] at R6
            go_wp2_with fail
            refine (endr g [] false _ R6.out).mono ?_
            rw [show endE [] false = 0 from by decide]
            rintro e w7 ⟨rfl, rfl⟩
            go_wp2_with fail
            go_ret
            exact ⟨rfl, B6.out⟩
    · all_goals
      go_wp2_with fail
      refine (readn _ (enc ls ws k) (by have := enc_len ls ws k; omega) _ HO.out.sees).mono ?_
      rintro e w4 ⟨g, rfl, hr, hb, hgl⟩
      have R4 := Lib.hid hr
      have B4 := Lib.hid (HB.out.trans (hb.mono HB.out.size))
      have hg : w.heap.size ≤ g := by have := HB.out.size; omega
      have T0 : Hid (tl ls ws k 0 = enc ls ws k) := rfl
      clear hr hb hgl HO HB
      go_wp2_with fail
      go_loopw [8] (fun i wr => ∃ (j : Nat), j ≤ k ∧ i = .int .i64 j ∧ RD wr g (tl ls ws k j) false ∧ Below w.heap.size w wr) (fun i _ => k - (intOf i).toNat)
      case atStart => exact ⟨0, by omega, rfl, by rw [T0.out]; exact R4.out, B4.out⟩
      case round =>
        clear R4 B4 T0
        obtain ⟨j, hj, rfl, hr, hb⟩ := hrel
        have HR := Lib.hid hr
        have HB := Lib.hid hb
        clear hr hb
        by_cases hjk : j < k
        · obtain ⟨lb, lo, rfl, hlb, lc, l0, l1⟩ := (HL.out.below HB.out).at (k := j) (by omega)
          obtain ⟨wb, wo, rfl, _, wc, w0, w1⟩ := sees_at (HW.out.below HB.out) (k := j) (by omega)
          have hlg : lb ≠ g := by
            intro e
            have := HL.out.at (k := j) (by omega)
            obtain ⟨b2, o2, e2, h2, _⟩ := this
            simp only [Option.some.injEq, Addr.mk.injEq] at e2
            omega
          have p1 : j < ls.length := by omega
          have p2 : j < ws.length := by omega
          have hcase : nth ws j % 4 = 0 ∨ nth ws j % 4 = 1 ∨ nth ws j % 4 = 2 ∨ nth ws j % 4 = 3 := by omega
          have TS : Hid (tl ls ws k j = be (wid (nth ws j)) (cut (nth ws j) (nth ls j)) ++ tl ls ws k (j + 1)) := tl_step ls ws k j hjk
          rcases hcase with hc | hc | hc | hc
          · have HW1 : Hid (wid (nth ws j) = 1) := by show _ = _; simp [wid, hc]
            have HC1 : Hid (cut (nth ws j) (nth ls j) = (nth ls j % 256)) := by show _ = _; unfold cut; rw [HW1.out]; rfl
            have TR : Hid (tl ls ws k j = be 1 (nth ls j % 256) ++ tl ls ws k (j + 1)) := by show _ = _; rw [TS.out, HW1.out, HC1.out]
            have HR2 : Hid (RD wr.drew g (be 1 (nth ls j % 256) ++ tl ls ws k (j + 1)) false) := by show RD _ _ _ _; rw [← TR.out]; exact HR.out
            have HB2 : Hid (Below w.heap.size w wr.drew) := HB.out.drew
            have hwr : IntKind.u8.wrap (nth ls j) = nth ls j % 256 := by simp [IntKind.wrap, IntKind.bits, IntKind.signed]
            go_wp2_with fail
            go_region_held3 (fun W => W.cell? ⟨lb, lo + j, none⟩ = some (.int .u64 (nth ls j))) (first | assumption | exact lc)
              ((go_at_call 24; refine (step8 g (nth ls j % 256) (by omega) (by omega) _ _ HR2.out w w.heap.size HB2.out hg ⟨lb, lo + j, none⟩ _ lc hlg).mono ?_; rintro e w5 ⟨rfl, hr5, hb5, hS5⟩; have R5 := Lib.hid hr5; have B5 := Lib.hid hb5; clear hr5 hb5))
            try simp only [beq_self_eq_true]
            go_wp2_with fail
            go_roundw
            case rel => exact ⟨j + 1, by omega, by go_num, R5.out, B5.out⟩
            case measure => simp [intOf]; omega
          · have HW1 : Hid (wid (nth ws j) = 2) := by show _ = _; simp [wid, hc]
            have HC1 : Hid (cut (nth ws j) (nth ls j) = (nth ls j % 65536)) := by show _ = _; unfold cut; rw [HW1.out]; rfl
            have TR : Hid (tl ls ws k j = be 2 (nth ls j % 65536) ++ tl ls ws k (j + 1)) := by show _ = _; rw [TS.out, HW1.out, HC1.out]
            have HR2 : Hid (RD wr.drew g (be 2 (nth ls j % 65536) ++ tl ls ws k (j + 1)) false) := by show RD _ _ _ _; rw [← TR.out]; exact HR.out
            have HB2 : Hid (Below w.heap.size w wr.drew) := HB.out.drew
            have hwr : IntKind.u16.wrap (nth ls j) = nth ls j % 65536 := by simp [IntKind.wrap, IntKind.bits, IntKind.signed]
            go_wp2_with fail
            go_region_held3 (fun W => W.cell? ⟨lb, lo + j, none⟩ = some (.int .u64 (nth ls j))) (first | assumption | exact lc)
              ((go_at_call 27; refine (step16 g (nth ls j % 65536) (by omega) (by omega) _ _ HR2.out w w.heap.size HB2.out hg ⟨lb, lo + j, none⟩ _ lc hlg).mono ?_; rintro e w5 ⟨rfl, hr5, hb5, hS5⟩; have R5 := Lib.hid hr5; have B5 := Lib.hid hb5; clear hr5 hb5))
            try simp only [beq_self_eq_true]
            go_wp2_with fail
            go_roundw
            case rel => exact ⟨j + 1, by omega, by go_num, R5.out, B5.out⟩
            case measure => simp [intOf]; omega
          · have HW1 : Hid (wid (nth ws j) = 4) := by show _ = _; simp [wid, hc]
            have HC1 : Hid (cut (nth ws j) (nth ls j) = (nth ls j % 4294967296)) := by show _ = _; unfold cut; rw [HW1.out]; rfl
            have TR : Hid (tl ls ws k j = be 4 (nth ls j % 4294967296) ++ tl ls ws k (j + 1)) := by show _ = _; rw [TS.out, HW1.out, HC1.out]
            have HR2 : Hid (RD wr.drew g (be 4 (nth ls j % 4294967296) ++ tl ls ws k (j + 1)) false) := by show RD _ _ _ _; rw [← TR.out]; exact HR.out
            have HB2 : Hid (Below w.heap.size w wr.drew) := HB.out.drew
            have hwr : IntKind.u32.wrap (nth ls j) = nth ls j % 4294967296 := by simp [IntKind.wrap, IntKind.bits, IntKind.signed]
            go_wp2_with fail
            go_region_held3 (fun W => W.cell? ⟨lb, lo + j, none⟩ = some (.int .u64 (nth ls j))) (first | assumption | exact lc)
              ((go_at_call 28; refine (step32 g (nth ls j % 4294967296) (by omega) (by omega) _ _ HR2.out w w.heap.size HB2.out hg ⟨lb, lo + j, none⟩ _ lc hlg).mono ?_; rintro e w5 ⟨rfl, hr5, hb5, hS5⟩; have R5 := Lib.hid hr5; have B5 := Lib.hid hb5; clear hr5 hb5))
            try simp only [beq_self_eq_true]
            go_wp2_with fail
            go_roundw
            case rel => exact ⟨j + 1, by omega, by go_num, R5.out, B5.out⟩
            case measure => simp [intOf]; omega
          · have HW1 : Hid (wid (nth ws j) = 8) := by show _ = _; simp [wid, hc]
            have HC1 : Hid (cut (nth ws j) (nth ls j) = (nth ls j)) := by show _ = _; unfold cut; rw [HW1.out]; omega
            have TR : Hid (tl ls ws k j = be 8 (nth ls j) ++ tl ls ws k (j + 1)) := by show _ = _; rw [TS.out, HW1.out, HC1.out]
            have HR2 : Hid (RD wr.drew g (be 8 (nth ls j) ++ tl ls ws k (j + 1)) false) := by show RD _ _ _ _; rw [← TR.out]; exact HR.out
            have HB2 : Hid (Below w.heap.size w wr.drew) := HB.out.drew
            go_wp2_with fail
            go_region_held3 (fun W => W.cell? ⟨lb, lo + j, none⟩ = some (.int .u64 (nth ls j))) (first | assumption | exact lc)
              ((go_at_call 29; refine (step64 g (nth ls j) (by omega) (by omega) _ _ HR2.out w w.heap.size HB2.out hg ⟨lb, lo + j, none⟩ _ lc hlg).mono ?_; rintro e w5 ⟨rfl, hr5, hb5, hS5⟩; have R5 := Lib.hid hr5; have B5 := Lib.hid hb5; clear hr5 hb5))
            try simp only [beq_self_eq_true]
            go_wp2_with fail
            go_roundw
            case rel => exact ⟨j + 1, by omega, by go_num, R5.out, B5.out⟩
            case measure => simp [intOf]; omega
        · obtain rfl : j = k := by omega
          go_wp2_with fail
          refine (alive _).mono ?_
          rintro e w6 ⟨rfl, hb6⟩
          have R6 := Lib.hid (HR.out.below hb6)
          have B6 := Lib.hid (HB.out.trans (hb6.mono HB.out.size))
          clear hb6
          rw [tl_end] at R6
          go_wp2_with fail
          refine (endr g [] false _ R6.out).mono ?_
          rw [show endE [] false = 0 from by decide]
          rintro e w7 ⟨rfl, rfl⟩
          go_wp2_with fail
          go_ret
          exact ⟨rfl, B6.out⟩
theorem walk (v u : Value) (ls ws : List Int) (w : World) (h : SeesW w v ls) (k : Sees w u ws) : Calls Try.prog 6 #[v, u] w fun e w' => e = .returned (.bool true) ∧ Below w.heap.size w w' := by
  by_cases hl : ls.length ≤ 60
  · exact walk_small v u ls ws hl w h k
  · obtain ⟨x, c, rfl, h63⟩ := h.form
    obtain ⟨y, d, rfl, h64⟩ := k.form
    exact walk_great x y _ c _ d h63 (by omega) w

set_option maxRecDepth 100000 in
theorem lifted (os : Os) (started : os.Started) (H : Type) (enc : TypeId × Value → H) :
    ReturnsInHanded {} Try.checked os 6 .any (Rows.octetBackSpec.pre6 enc Try.prog Try.f6 Rows.octetBackRow.domain false) (Rows.octetBackSpec.post enc Try.prog Try.f6 false true false false) := by
  refine returnsInHanded_of_change (C := Try.checked) own started (by kernel_rfl) Try.func6
    (ChangeSpec.witness6 (enc := enc) (C := Try.checked) false ⟨#[], #[.slice none 0 0, .slice none 0 0], []⟩ 8 (by kernel_rfl) (by kernel_rfl) (by kernel_rfl) (by kernel_rfl)) ?_
  intro W base args ds gs before hval0 hW hcnd _
  have hval : ∀ (j : Nat) t v, Try.f6.params[j]? = some t → args[j]? = some v → Value.okWide Try.prog W .any base t v := hval0
  have hW' := hW
  obtain ⟨p, q, hA0, hV, rfl, hfz, hnd⟩ := hW
  have hA : DataW.TrodAll enc Try.prog W 0 (fun _ => true) true Try.f6.params.toList args.toList ds p := hA0
  rw [Try.params6] at hA hval
  obtain ⟨v0, vs0, d0, ds0, p0, q0, hargs, rfl, rfl, h0, r0⟩ := trodAll_cons hA
  obtain ⟨v1, vs1, d1, ds1, p1, q1, rfl, rfl, rfl, h1, r1⟩ := trodAll_cons r0
  obtain ⟨rfl, rfl, rfl⟩ := trodAll_nil r1
  obtain rfl : args = #[v0, v1] := by cases args; simp_all
  obtain ⟨rfl, rfl⟩ := trodVars_none hV
  obtain ⟨x0, s0⟩ := open_words (hval 0 63 v0 rfl rfl) h0
  obtain ⟨x1, s1⟩ := open_sees (hval 1 25 v1 rfl rfl) h1
  refine (walk v0 v1 x0 x1 W s0 s1).mono fun e W' ⟨he, hb⟩ => ?_
  subst he
  exact ⟨_, rfl, law_post hW' rfl rfl rfl (by kernel_rfl) hb⟩

/-- The statement. -/
theorem proved : Rows.OctetBackSaid :=
  OpenClaim.holds_of_wide 6 Try.f6 rfl rfl rfl rfl rfl rfl rfl ⟨rfl, rfl, rfl, rfl, rfl⟩ rfl rfl rfl rfl rfl (by kernel_rfl) Try.func6 (by kernel_rfl)
    (of_decide_eq_true (by kernel_rfl)) (by unfold Func.isWrapper; first | (rw [if_pos (by decide +kernel)]; kernel_rfl) | (rw [if_neg (by decide +kernel)]; exact ⟨rfl, rfl⟩))
    (fun os started H enc _ => lifted os started H enc)
#print axioms proved
end Go.Proofs.Ytmjbfjkbfnpnlaa.octetBack
