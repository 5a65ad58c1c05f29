/-
  Contracts of the document's own functions of package hmac: Expand, Derive; a string made bytes, and bytes put behind it. Condition: the slices read as bytes, of bounded length.
-/
import Derived.Test.YtmkaagiabafooaaDoorRefS
import Derived.Laws.IdiomStrings
import Derived.ArgAppend
namespace Go.Proofs.YtmkaagiabafooaaDoor
open Go.RowKit
theorem und22 : Tryd.prog.underlying 22 = some (.slice (Tryd.prog.elem 22)) := by kernel_rfl
/-- 'b[:n]' of a slice that reads as bytes. -/
theorem cut_h {w : World} {x : Option Addr} {cap l : Nat} {xs : List Int} (h : Sees w (.slice x l cap) xs) (hxl : xs.length = l) (n : Nat) (hn : n ≤ l) :
    ∃ y c, (∀ W, (Instr.slice 22 (.slice x l cap) none (some (.int .i64 n)) none).run Tryd.prog W = .ok (.slice y n c) W) ∧ Sees w (.slice y n c) (xs.take n) := by
  subst hxl
  have hc : xs.length ≤ cap := by
    obtain ⟨_, ⟨e, e2⟩ | ⟨_, _, e, e2, _⟩ | ⟨_, _, _, e, _, h1, _⟩⟩ := h
    · subst e2; simp
    · subst e2; simp
    · simp only [Value.slice.injEq] at e; omega
  have hrun : ∀ W, (Instr.slice 22 (.slice x xs.length cap) none (some (.int .i64 n)) none).run Tryd.prog W = .ok (sliced x 0 n cap 1) W := fun W => by
    rw [run_slice_h W 22 x xs.length cap und22 .i64 n (by omega) (by omega), size5']
    simp only [Result.andThen, Int.toNat_natCast]
  have e : sliced x 0 n cap 1 = .slice (if cap = 0 then x else x.map (·.add (0 * 1))) n cap := by
    unfold sliced; rw [Nat.sub_zero, Nat.sub_zero]
  rw [e] at hrun
  refine ⟨_, _, hrun, h.1.take n, ?_⟩
  have hlen : (xs.take n).length = n := by rw [List.length_take]; omega
  obtain ⟨_, ⟨e1, e2⟩ | ⟨a, c', e1, e2, hm⟩ | ⟨b, o, c', e1, h0, hl, hm, hcell⟩⟩ := h
  · simp only [Value.slice.injEq] at e1
    obtain ⟨rfl, _, rfl⟩ := e1
    subst e2
    obtain rfl : n = 0 := by simpa using hn
    exact .inl ⟨rfl, rfl⟩
  · simp only [Value.slice.injEq] at e1
    obtain ⟨rfl, _, rfl⟩ := e1
    subst e2
    obtain rfl : n = 0 := by simpa using hn
    by_cases hz : cap = 0
    · rw [if_pos hz]; exact .inr (.inl ⟨a, _, rfl, rfl, hm⟩)
    · rw [if_neg hz]; exact .inr (.inl ⟨_, _, rfl, rfl, hm⟩)
  · simp only [Value.slice.injEq] at e1
    obtain ⟨rfl, _, rfl⟩ := e1
    by_cases hz : n = 0
    · subst hz
      by_cases hz2 : cap = 0
      · rw [if_pos hz2]; exact .inr (.inl ⟨_, _, rfl, List.take_zero, hm⟩)
      · rw [if_neg hz2]; exact .inr (.inl ⟨_, _, rfl, List.take_zero, hm⟩)
    · rw [if_neg (by omega)]
      refine .inr (.inr ⟨b, o, cap, ?_, ?_, ?_, hm, ?_⟩)
      · rw [hlen]; simp [addr_add]
      · intro e; rw [e] at hlen; simp at hlen; omega
      · rw [hlen]; omega
      · intro i hi
        rw [hlen] at hi
        rw [hcell i (by omega)]
        simp [nth, List.getD, List.getElem?_take_of_lt hi]
theorem tstr_strm (key name : List Int) (hk : Byt key) (n p : Nat) (hp : p ≤ 255) (h : n ≤ 32 * p) : (tstr key name p).take n = strm key name n := by
  obtain ⟨r, hr⟩ := tstr_more key name p (255 - p)
  rw [show p + (255 - p) = 255 by omega] at hr
  unfold strm
  rw [hr, List.take_append_of_le_length (by rw [tstr_len key name hk]; exact h)]
theorem expandD_arg (x y : Value) (n : Int) (hn : n < 0) (w : World) :
    Calls Tryd.prog 27 #[x, y, .int .i64 n] w fun e w' => e = .returned (.tuple #[.slice none 0 0, .int .i64 1]) ∧ w = w' := by
  go_enter Tryd.func27, Tryd.ntmps27
  go_wp2_with fail
  go_ret2
  exact ⟨rfl, rfl⟩
theorem expandD_long (x y : Value) (n : Int) (hn : 8160 < n) (w : World) :
    Calls Tryd.prog 27 #[x, y, .int .i64 n] w fun e w' => e = .returned (.tuple #[.slice none 0 0, .int .i64 2]) ∧ w = w' := by
  have h0 : ¬ n < 0 := by omega
  go_enter Tryd.func27, Tryd.ntmps27
  go_wp2_with fail
  go_ret2
  exact ⟨rfl, rfl⟩
set_option maxRecDepth 100000 in
set_option maxHeartbeats 2000000 in
theorem expandD_ok (vk vn : Value) (key name : List Int) (n : Nat) (hn : n ≤ 8160) (w : World) (hk : Sees w vk key) (hv : Sees w vn name) (lk : key.length ≤ 1000) (ln : name.length ≤ 1000) :
    Calls Tryd.prog 27 #[vk, vn, .int .i64 n] w (ExpandP w key name n) := by
  obtain ⟨p, hp⟩ : ∃ p, p = (n + 31) / 32 := ⟨_, rfl⟩
  have hpi : ((n : Int) + 31) / 32 = (p : Int) := by omega
  have ST := Lib.hid (streamD vk vn key name p (by omega) w hk hv lk ln)
  have TL := Lib.hid (tstr_len key name hk.1 p)
  have TT := Lib.hid (tstr_strm key name hk.1 n p (by omega) (by omega))
  have hnp : n ≤ 32 * p := by omega
  have HP := Lib.hid hpi
  have a1 : ¬ (n : Int) < 0 := by omega
  have a2 : ¬ (8160 : Int) < n := by omega
  clear hk hv lk ln hp hpi
  go_enter Tryd.func27, Tryd.ntmps27
  go_wp2_with fail
  rw [HP.out]
  refine ST.out.mono ?_
  rintro e w1 ⟨q, cap, rfl, ho, hb⟩
  obtain ⟨y, c, hc, hs⟩ := cut_h ho.sees rfl n (by rw [TL.out]; exact hnp)
  rw [TT.out] at hs
  have HS := Lib.hid hs
  have HB := Lib.hid hb
  rw [TL.out] at hc ⊢
  clear ho hs hb
  go_wp2_with fail
  go_ret2
  exact ⟨y, c, rfl, HS.out, HB.out⟩
/-- A string that was made bytes: a row that bears the run-time's mark. -/
def SRow (w : World) (base : Nat) (v : Value) (xs : List Int) : Prop :=
  Byt xs ∧ ∃ g cap C, v = .slice (some ⟨g, 0, none⟩) xs.length cap ∧ base ≤ g ∧ xs.length ≤ cap ∧ cap ≤ maxLen ∧ w.heap[g]? = some (.cells C 5 (cap, cap + 1)) ∧ C.size = cap ∧ C.toList.take xs.length = xs.map (Value.int .u8)
theorem str_cells (xs : List Int) (hb : Byt xs) : ((strOfNums xs).data.map fun b => Value.int .u8 b.toNat).toList = xs.map (Value.int .u8) ∧ (strOfNums xs).size = xs.length := by
  have e1 : (strOfNums xs).data.toList = tob xs := by rw [← ByteArray.toList_eq]; exact strOfNums_toList xs
  have hl : (strOfNums xs).size = xs.length := by
    have := congrArg List.length e1
    simpa [tob] using this
  refine ⟨?_, hl⟩
  rw [Array.toList_map, e1]
  unfold tob
  rw [List.map_map]
  apply List.map_congr_left
  intro x hx
  have := hb x hx
  simp only [Function.comp_def]
  congr 1
  simp
  omega
theorem conv_str (w : World) (xs : List Int) (hb : Byt xs) (hl : xs.length ≤ 1099511627776) : ∃ v w', (convert 9 22 (.string (strOfNums xs))).run Tryd.prog w = .ok v w' ∧ SRow w' w.heap.size v xs ∧ Below w.heap.size w w' := by
  have h := run_bytes_of_string (P := Tryd.prog) w 9 22 5 (strOfNums xs) Tryd.underlying9 Tryd.underlying22 Tryd.underlying5
  obtain ⟨h1, h2⟩ := str_cells xs hb
  have hge := grownCap_ge w (strOfNums xs).size 0 5
  have hle := grownCap_le_maxLen w (strOfNums xs).size 0 5 (by rw [h2]; unfold maxLen; omega)
  have hsz : (bytesRow (strOfNums xs) (grownCap w (strOfNums xs).size 0 5)).size = grownCap w (strOfNums xs).size 0 5 := by
    have : ((strOfNums xs).data.map fun b => Value.int .u8 b.toNat).size = (strOfNums xs).size := by rw [Array.size_map]; rfl
    unfold bytesRow; rw [Array.size_append, this, Array.size_replicate]; omega
  rw [hsz] at h
  refine ⟨_, _, h, ⟨hb, w.heap.size, grownCap w (strOfNums xs).size 0 5, _, by rw [h2], Nat.le_refl _, by omega, hle, heap_alloc_new w.drew _, hsz, ?_⟩, ?_⟩
  · unfold bytesRow
    rw [Array.toList_append, h1, List.take_append_of_le_length (by simp), List.take_of_length_le (by simp)]
  · exact ((Below.refl w.heap.size w).drew).alloc (Nat.le_refl _) _
theorem SRow.sees {w : World} {base : Nat} {v : Value} {xs : List Int} (h : SRow w base v xs) : Sees w v xs := by
  obtain ⟨hb, g, cap, C, rfl, _, hn, hm, hg, hs, ht⟩ := h
  refine ⟨hb, ?_⟩
  by_cases h0 : xs = []
  · subst h0; exact .inr (.inl ⟨_, _, rfl, rfl, hm⟩)
  · refine .inr (.inr ⟨g, 0, cap, rfl, h0, hn, hm, fun i hi => ?_⟩)
    rw [cell_of_row _ _ _ _ _ _ hg, Nat.zero_add]
    have h1 : (xs.map (Value.int .u8))[i]? = some (.int .u8 (nth xs i)) := by simp [nth, List.getD, hi]
    rw [← ht, List.getElem?_take_of_lt hi] at h1
    simpa using h1
theorem SRow.below {w w' : World} {base : Nat} {v : Value} {xs : List Int} (h : SRow w base v xs) (hb : Below w.heap.size w w') : SRow w' base v xs := by
  obtain ⟨h0, g, cap, C, h1, h2, h3, h4, h5, h6⟩ := h
  exact ⟨h0, g, cap, C, h1, h2, h3, h4, by rw [hb.block _ (blk_lt h5)]; exact h5, h6⟩
theorem below_setCells {base g : Nat} {w0 : World} (hg : base ≤ g) : ∀ (vs : List Value) (o : Nat) (w : World), Below base w0 w → Below base w0 (w.setCells g o vs)
  | [], _, _, h => h
  | _ :: r, o, _, h => below_setCells hg r (o + 1) _ (h.setCell hg _)
/-- Bytes put behind such a row. -/
theorem app_str {w : World} {base : Nat} {v u : Value} {xs ys : List Int} (h : SRow w base v xs) (hs : Sees w u ys) (hn : xs.length + ys.length ≤ 1099511627776) (hy : ys ≠ []) (hbase : base ≤ w.heap.size) :
    ∃ x cap w', (Builtin.append_ #[22, 22] 22 #[v, u]).run Tryd.prog w = .ok (.slice x (xs.length + ys.length) cap) w' ∧ Sees w' (.slice x (xs.length + ys.length) cap) (xs ++ ys) ∧ Below base w w' := by
  obtain ⟨hb, g, cap, C, rfl, hbg, hle, hm, hg, hsz, ht⟩ := h
  obtain ⟨i, hi, hz0, hz1, hz2⟩ := info_parts info5
  obtain ⟨hyb, ⟨_, e⟩ | ⟨_, _, _, e, _⟩ | ⟨b, o, c2, rfl, _, h4, h5, h6⟩⟩ := hs
  · exact absurd e hy
  · exact absurd e hy
  have hnews : ∀ j u, (ys.map (Value.int .u8))[j]? = some u → w.cell? ((⟨b, o, none⟩ : Addr).add j) = some u := fun j u hj => by
    have hjl : j < ys.length := by
      rcases Nat.lt_or_ge j ys.length with h | h
      · exact h
      · simp [List.getElem?_eq_none (show (ys.map (Value.int .u8)).length ≤ j by simpa using h)] at hj
    rw [addr_add, h6 j hjl, ← hj]
    simp [nth, List.getD, hjl]
  have holds : ∀ j u, (xs.map (Value.int .u8))[j]? = some u → w.cell? ((⟨g, 0, none⟩ : Addr).add j) = some u := fun j u hj => by
    have hjl : j < xs.length := by
      rcases Nat.lt_or_ge j xs.length with h | h
      · exact h
      · simp [List.getElem?_eq_none (show (xs.map (Value.int .u8)).length ≤ j by simpa using h)] at hj
    rw [addr_add, cell_of_row _ _ _ _ _ _ hg, Nat.zero_add]
    rw [← ht, List.getElem?_take_of_lt hjl] at hj
    simpa using hj
  by_cases hroom : xs.length + ys.length ≤ cap
  · have hin : ∀ j, j < (ys.map (Value.int .u8)).length → (w.cell? ⟨g, 0 + xs.length * i.size + j, none⟩).isSome = true := fun j hj => by
      rw [cell_of_row _ _ _ _ _ _ hg, hz1]
      simp at hj ⊢
      omega
    have hr := run_append_room_cells (P := Tryd.prog) w 22 22 5 i Tryd.underlying22 hi g 0 xs.length cap ⟨b, o, none⟩ ys.length c2 (ys.map (Value.int .u8)) (by simp [hz1]) hnews (by simp [Value.oneCell']) hroom hin
      (fun j hj => by simp [World.frozen?, hg]; rw [hz1]; simp at hj; omega)
    refine ⟨_, _, _, hr, ⟨hb.append hyb, .inr (.inr ⟨g, 0, cap, by simp, by simp [hy], by simpa using hroom, hm, fun j hj => ?_⟩)⟩, below_setCells hbg _ _ _ (Below.refl _ _)⟩
    rw [Nat.zero_add]
    rw [hz1] at *
    simp only [Nat.mul_one, Nat.zero_add] at *
    by_cases hjx : j < xs.length
    · rw [World.cell?_setCells_out g _ _ _ _ (fun _ _ => .inl hjx)]
      have := holds j (.int .u8 (nth xs j)) (by simp [nth, List.getD, hjx])
      rw [addr_add, Nat.zero_add] at this
      rw [this]
      simp [nth, List.getD, List.getElem?_append_left hjx]
    · obtain ⟨k, rfl⟩ : ∃ k, j = xs.length + k := ⟨j - xs.length, by omega⟩
      have hk : k < ys.length := by simp at hj; omega
      rw [World.cell?_setCells_in g _ _ _ hin k (by simpa using hk)]
      simp [nth, List.getD, hk]
  · obtain ⟨v', w', hr, ho, hgr⟩ := run_append_arg_grows (P := Tryd.prog) w 22 22 5 i _ 1 1 Tryd.underlying22 hi hz0 hz1 hz2 rfl (by decide) ⟨g, 0, none⟩ xs.length cap (xs.map (Value.int .u8)) (by simp) holds ⟨b, o, none⟩ ys.length c2 (ys.map (Value.int .u8)) (by simp) hnews (by omega) (by unfold maxLen; omega) (by omega)
    have hown : Own w' w.heap.size v' (xs ++ ys) := ⟨hb.append hyb, by simpa using ho⟩
    have hbel : Below base w w' := (Below.refl base w).grown hgr hbase (fun k e => by cases e)
    rcases ho.2 with ⟨_, h0⟩ | ⟨g', cap', cur, rfl, _⟩
    · exact absurd (List.length_eq_zero_iff.1 (show ys.length = 0 by omega)) hy
    · have := hown.sees
      exact ⟨_, _, w', hr, this, hbel⟩
theorem stream1 (vk vn : Value) (key name : List Int) (w : World) (hk : Sees w vk key) (hv : Sees w vn name) (lk : key.length ≤ 1000) (ln : name.length ≤ 1000) :
    Calls Tryd.prog 41 #[vk, vn, .int .i64 1] w (OwnP w (tstr key name 1)) := streamD vk vn key name 1 (by omega) w hk hv lk ln
set_option maxRecDepth 100000 in
set_option maxHeartbeats 4000000 in
theorem deriveD (vk : Value) (key name : List Int) (num : Int) (hnum : 0 ≤ num ∧ num ≤ 18446744073709551615) (w : World) (hk : Sees w vk key) (hv : Byt name) (lk : key.length ≤ 1000) (ln : name.length ≤ 900) :
    Calls Tryd.prog 29 #[vk, .string (strOfNums name), .int .u64 num] w (OwnP w (tstr key (name ++ be 8 num) 1)) := by
  obtain ⟨x1, c1, rfl, _⟩ := id hk.form
  obtain ⟨v1, w1, r1, s1, b1⟩ := conv_str w name hv (by omega)
  have S1 := Lib.hid s1
  have B1 := Lib.hid b1
  have HK := Lib.hid hk
  obtain ⟨n0, n1⟩ := hnum
  clear s1 b1 hk
  go_enter Tryd.func29, Tryd.ntmps29
  go_wp2_with fail
  clear r1
  refine (bytes8 num n0 n1 w1).mono ?_
  rintro e w2 ⟨x2, c2, rfl, ho2, hb2⟩
  have B2 := Lib.hid (B1.out.trans (hb2.mono B1.out.size))
  obtain ⟨x3, c3, w3, r3, s3, b3⟩ := app_str (S1.out.below hb2) ho2.sees (by rw [be_len]; omega) (by intro e; have := congrArg List.length e; rw [be_len] at this; simp at this) B2.out.size
  have R3 := Lib.hid r3
  have S3 := Lib.hid s3
  have B3 : Hid (Below w.heap.size w w3) := B2.out.trans b3
  clear ho2 hb2 r3 s3 b3
  go_wp2_with (at_builtin; refine wpList_app rfl (.tmp 9) (.tmp 11) rfl rfl rfl rfl R3.out ?_)
  refine (stream1 _ _ key (name ++ be 8 num) w3 (HK.out.below B3.out) S3.out (by omega) (by rw [List.length_append, be_len]; omega)).mono ?_
  rintro e w4 ⟨x4, c4, rfl, ho4, hb4⟩
  have O4 := Lib.hid (ho4.lower B3.out.size)
  have B4 : Hid (Below w.heap.size w w4) := B3.out.trans (hb4.mono B3.out.size)
  clear ho4 hb4
  go_wp2_with fail
  go_ret
  exact ⟨_, _, rfl, O4.out, B4.out⟩
end Go.Proofs.YtmkaagiabafooaaDoor
