/-
  Contracts of the reader, once more, with the place of its copy. Condition: the reader is one that Read made.
-/
import Derived.Test.YtabopcfhonkecaaK
namespace Go.Proofs.Ytabopcfhonkecaa.rx
open Go.RowKit octetReads octetPuts
/-- Block g is a reader: what is left, and whether there were too few. -/
def RD (w : World) (g : Nat) (xs : List Int) (s : Bool) : Prop :=
  Byt xs ∧ ∃ b o cap, w.heap[g]? = some (.cells #[.slice (some ⟨b, o, none⟩) xs.length cap, .bool s] 72 (0, 0)) ∧ b + 1 = g ∧ xs.length ≤ cap ∧ cap ≤ maxLen ∧
    ∀ i, i < xs.length → w.cell? ⟨b, o + i, none⟩ = some (.int .u8 (nth xs i))

/-- Are there too few? What comes, what is left. -/

def TakeP (w : World) (g : Nat) (xs : List Int) (s : Bool) (n : Int) (e : Ending) (w' : World) : Prop :=
  ∃ v, e = .returned v ∧ Sees w' v (got xs s n) ∧ v.ownBlock ≠ some g ∧ RD w' g (rst xs s n) (shrt xs.length s n) ∧ w.grownBy w' (some g)

theorem take_rd (g : Nat) (xs : List Int) (s : Bool) (n : Int) (w : World) (h : RD w g xs s) : Calls Try.prog 41 #[.pointer (some ⟨g, 0, none⟩), .int .i64 n] w (TakeP w g xs s n) := by
  obtain ⟨hb, b, o, cap, hg, hne1, hl, hm, hc⟩ := h
  have hne : b ≠ g := by omega
  have c0 : w.cell? ⟨g, 0, none⟩ = some (.slice (some ⟨b, o, none⟩) xs.length cap) := by rw [cell_of_row w g 0 _ _ _ hg]; rfl
  have c1 : w.cell? ⟨g, 1, none⟩ = some (.bool s) := by rw [cell_of_row w g 1 _ _ _ hg]; rfl
  cases s with
  | true =>
    refine (take_short g n w c1).mono ?_
    rintro e w' ⟨rfl, rfl⟩
    have e1 : got xs true n = [] := by simp [got, shrt]
    have e2 : rst xs true n = xs := by simp [rst, shrt]
    have e3 : shrt xs.length true n = true := by simp [shrt]
    exact ⟨_, rfl, by rw [e1]; exact sees_nil _, by simp [Value.ownBlock], by rw [e2, e3]; exact ⟨hb, b, o, cap, hg, hne1, hl, hm, hc⟩, grownBy_refl _ _⟩
  | false =>
    by_cases hn : n < 0 ∨ (xs.length : Int) < n
    · refine (take_less g b o xs.length cap n hn w c0 c1 (frozen_block hg 1)).mono ?_
      rintro e w' ⟨rfl, rfl⟩
      have e3 : shrt xs.length false n = true := by simp [shrt]; exact hn
      have e1 : got xs false n = [] := by simp [got, e3]
      have e2 : rst xs false n = xs := by simp [rst, e3]
      rw [setCell_eq_setRow w g 1 _ _ _ _ hg]
      refine ⟨_, rfl, by rw [e1]; exact sees_nil _, by simp [Value.ownBlock], ?_, grownBy_setRow _ _ _⟩
      rw [e2, e3]
      exact ⟨hb, b, o, cap, setRow_heap w g _ _ _ _ hg, hne1, hl, hm, fun i hi => by rw [cell_setRow_other _ _ _ _ hne]; exact hc i hi⟩
    · obtain ⟨q, rfl⟩ := Int.eq_ofNat_of_zero_le (show 0 ≤ n by omega)
      have hq : q ≤ xs.length := by omega
      have e3 : shrt xs.length false (q : Int) = false := by simp [shrt]; omega
      have e1 : got xs false (q : Int) = xs.take q := by simp [got, e3]
      have e2 : rst xs false (q : Int) = xs.drop q := by simp [rst, e3]
      have hm' := hm
      unfold maxLen at hm'
      refine (take_some g b o xs.length cap q hq hl (by omega) w c0 c1 (frozen_block hg 0)).mono ?_
      rintro e w' ⟨rfl, rfl⟩
      rw [setCell_eq_setRow w g 0 _ _ _ _ hg]
      have hsees : Sees (w.setRow g (#[Value.slice (some ⟨b, o, none⟩) xs.length cap, .bool false].setIfInBounds 0 (.slice (some ⟨b, if cap = q then o else o + q, none⟩) (xs.length - q) (cap - q)))) (.slice (some ⟨b, o, none⟩) q cap) (xs.take q) := by
        refine ⟨hb.take q, ?_⟩
        by_cases h0 : xs.take q = []
        · have : q = 0 := by
            have h2 := congrArg List.length h0
            rw [List.length_take, Nat.min_eq_left hq] at h2
            exact h2
          subst this
          exact .inr (.inl ⟨_, _, rfl, rfl, hm⟩)
        · refine .inr (.inr ⟨b, o, cap, by simp [Nat.min_eq_left hq], h0, by simp; omega, hm, fun i hi => ?_⟩)
          have hi' : i < q := by simp at hi; omega
          rw [cell_setRow_other _ _ _ _ hne, hc i (by omega)]
          simp [nth, List.getD, List.getElem?_take_of_lt hi']
      refine ⟨_, rfl, by rw [e1]; exact hsees, by simp [Value.ownBlock]; exact hne, ?_, grownBy_setRow _ _ _⟩
      rw [e2, e3]
      refine ⟨hb.drop q, b, _, cap - q, by rw [List.length_drop]; exact setRow_heap w g _ _ _ _ hg, hne1, by simp; omega, by unfold maxLen; omega, fun i hi => ?_⟩
      have hi' : q + i < xs.length := by simp at hi; omega
      rw [if_neg (by omega), cell_setRow_other _ _ _ _ hne, Nat.add_assoc, hc (q + i) hi']
      simp [nth, List.getD, List.getElem?_drop]

/-- Read: a reader of a copy. -/
theorem read_rd (v : Value) (xs : List Int) (hl : xs.length ≤ 140737488355328) (w : World) (h : Sees w v xs) :
    Calls Try.prog 24 #[v] w fun e w' => e = .returned (.pointer (some ⟨w.heap.size + 1, 0, none⟩)) ∧
      (w.alloc (.cells (bcells xs) 5)).alloc (.cells #[.slice (some ⟨w.heap.size, 0, none⟩) xs.length xs.length, .bool false] 72) = w' := by
  obtain ⟨x, cap, rfl, h63⟩ := h.form
  go_enter Try.func24, Try.ntmps24
  go_wp2_with (go_at_call 35; refine (filled _ xs xs.length (Nat.le_refl _) hl _ h).mono ?_; rintro e w' ⟨rfl, rfl⟩)
  go_ret
  exact ⟨rfl, rfl⟩

theorem rd_made (w : World) (xs : List Int) (hb : Byt xs) (hm : xs.length ≤ maxLen) :
    RD ((w.alloc (.cells (bcells xs) 5)).alloc (.cells #[.slice (some ⟨w.heap.size, 0, none⟩) xs.length xs.length, .bool false] 72)) (w.heap.size + 1) xs false := by
  refine ⟨hb, w.heap.size, 0, xs.length, ?_, rfl, Nat.le_refl _, hm, fun i hi => ?_⟩
  · have := heap_alloc_new (w.alloc (.cells (bcells xs) 5)) (.cells #[.slice (some ⟨w.heap.size, 0, none⟩) xs.length xs.length, .bool false] 72)
    simpa using this
  · obtain ⟨_, ⟨h1, _⟩ | ⟨a, c, h1, h2, _⟩ | ⟨b, o, c, h1, _, _, _, h2⟩⟩ := sees_alloc w xs hb xs.length xs.length rfl (Nat.le_refl _) hm []
    · simp at h1
    · subst h2; simp at hi
    · simp only [Value.slice.injEq, Option.some.injEq, Addr.mk.injEq] at h1
      obtain ⟨⟨rfl, rfl, _⟩, _, rfl⟩ := h1
      rw [List.append_nil] at h2
      exact World.Extends.cell_of ((World.Extends.refl _).alloc _) (h2 i hi)

def NumP8 (w : World) (g : Nat) (xs : List Int) (s : Bool) (e : Ending) (w' : World) : Prop :=
  e = .returned (.int .u8 (getV (got xs s 1) 0 1)) ∧ RD w' g (rst xs s 1) (shrt xs.length s 1) ∧ w.grownBy w' (some g)
def NumP16 (w : World) (g : Nat) (xs : List Int) (s : Bool) (e : Ending) (w' : World) : Prop :=
  e = .returned (.int .u16 (getV (got xs s 2) 0 2)) ∧ RD w' g (rst xs s 2) (shrt xs.length s 2) ∧ w.grownBy w' (some g)
def NumP32 (w : World) (g : Nat) (xs : List Int) (s : Bool) (e : Ending) (w' : World) : Prop :=
  e = .returned (.int .u32 (getV (got xs s 4) 0 4)) ∧ RD w' g (rst xs s 4) (shrt xs.length s 4) ∧ w.grownBy w' (some g)
theorem next32 (g : Nat) (xs : List Int) (s : Bool) (w : World) (h : RD w g xs s) : Calls Try.prog 37 #[.pointer (some ⟨g, 0, none⟩)] w (NumP32 w g xs s) := by
  have H := Lib.hid h
  clear h
  go_enter Try.func37, Try.ntmps37
  go_wp2_with (first
    | (go_at_call 34; refine (width32 _).mono ?_; rintro e w' ⟨rfl, rfl⟩)
    | (go_at_call 41; refine (take_rd g xs s 4 _ H.out).mono ?_; rintro e w1 ⟨v, rfl, hs, _, hr, hg⟩; have HS := Lib.hid hs; have HR := Lib.hid hr; have HG := Lib.hid hg; clear hs hr hg)
    | (go_at_call 42; refine (get32 _ _ 0 (by decide) _ HS.out).mono ?_; rintro e w' ⟨rfl, rfl⟩))
  go_ret
  exact ⟨rfl, HR.out, HG.out⟩
theorem u32 (g : Nat) (xs : List Int) (s : Bool) (w : World) (h : RD w g xs s) : Calls Try.prog 26 #[.pointer (some ⟨g, 0, none⟩)] w (NumP32 w g xs s) := by
  have H := Lib.hid h
  clear h
  go_enter Try.func26, Try.ntmps26
  go_wp2_with (go_at_call 37; refine (next32 g xs s _ H.out).mono ?_; rintro e w1 ⟨rfl, hr, hg⟩; have HR := Lib.hid hr; have HG := Lib.hid hg; clear hr hg)
  go_ret
  exact ⟨rfl, HR.out, HG.out⟩
theorem next16 (g : Nat) (xs : List Int) (s : Bool) (w : World) (h : RD w g xs s) : Calls Try.prog 36 #[.pointer (some ⟨g, 0, none⟩)] w (NumP16 w g xs s) := by
  have H := Lib.hid h
  clear h
  go_enter Try.func36, Try.ntmps36
  go_wp2_with (first
    | (go_at_call 33; refine (width16 _).mono ?_; rintro e w' ⟨rfl, rfl⟩)
    | (go_at_call 41; refine (take_rd g xs s 2 _ H.out).mono ?_; rintro e w1 ⟨v, rfl, hs, _, hr, hg⟩; have HS := Lib.hid hs; have HR := Lib.hid hr; have HG := Lib.hid hg; clear hs hr hg)
    | (go_at_call 40; refine (get16 _ _ 0 (by decide) _ HS.out).mono ?_; rintro e w' ⟨rfl, rfl⟩))
  go_ret
  exact ⟨rfl, HR.out, HG.out⟩
theorem u16 (g : Nat) (xs : List Int) (s : Bool) (w : World) (h : RD w g xs s) : Calls Try.prog 25 #[.pointer (some ⟨g, 0, none⟩)] w (NumP16 w g xs s) := by
  have H := Lib.hid h
  clear h
  go_enter Try.func25, Try.ntmps25
  go_wp2_with (go_at_call 36; refine (next16 g xs s _ H.out).mono ?_; rintro e w1 ⟨rfl, hr, hg⟩; have HR := Lib.hid hr; have HG := Lib.hid hg; clear hr hg)
  go_ret
  exact ⟨rfl, HR.out, HG.out⟩
def NumP64 (w : World) (g : Nat) (xs : List Int) (s : Bool) (e : Ending) (w' : World) : Prop :=
  e = .returned (.int .u64 (getV (got xs s 8) 0 8)) ∧ RD w' g (rst xs s 8) (shrt xs.length s 8) ∧ w.grownBy w' (some g)
/-- End: 0, too few (10), too many (2). -/
def ReadP (w : World) (xs : List Int) (e : Ending) (w' : World) : Prop :=
  ∃ g, e = .returned (.pointer (some ⟨g, 0, none⟩)) ∧ RD w' g xs false ∧ Below w.heap.size w w' ∧ w.heap.size ≤ g
theorem readn (v : Value) (xs : List Int) (hl : xs.length ≤ 140737488355328) (w : World) (h : Sees w v xs) : Calls Try.prog 24 #[v] w (ReadP w xs) :=
  (read_rd v xs hl w h).mono fun e w' ⟨he, hw⟩ => by
    subst he hw
    exact ⟨_, rfl, rd_made w xs h.1 (by unfold maxLen; omega), ((Below.refl _ _).alloc (Nat.le_refl _) _).alloc (by simp) _, by omega⟩
theorem RD.setRow {w : World} {g k : Nat} {xs : List Int} {s : Bool} (h : RD w g xs s) (cs : Array Value) (h1 : k ≠ g) (h2 : k + 1 ≠ g) : RD (w.setRow k cs) g xs s := by
  obtain ⟨hx, b, o, cap, hg, hne, hl, hm, hc⟩ := h
  exact ⟨hx, b, o, cap, (setRow_other w k g cs (by omega)).trans hg, hne, hl, hm, fun i hi => by rw [cell_setRow_other _ _ _ _ (show b ≠ k by omega)]; exact hc i hi⟩
def BytesP (w : World) (g : Nat) (xs : List Int) (s : Bool) (n : Int) (e : Ending) (w' : World) : Prop :=
  ∃ q, e = .returned (.slice (some ⟨q, 0, none⟩) (got xs s n).length (got xs s n).length) ∧ Sees w' (.slice (some ⟨q, 0, none⟩) (got xs s n).length (got xs s n).length) (got xs s n) ∧ w.heap.size ≤ q ∧
    RD w' g (rst xs s n) (shrt xs.length s n) ∧ w.grownBy w' (some g)

theorem RD.below {w w' : World} {g : Nat} {xs : List Int} {s : Bool} (h : RD w g xs s) (hb : Below w.heap.size w w') : RD w' g xs s := by
  obtain ⟨h1, b, o, cap, hg, hne, hl, hm, hc⟩ := h
  exact ⟨h1, b, o, cap, (hb.block g (Array.getElem?_eq_some_iff.1 hg).1).trans hg, hne, hl, hm, fun i hi => (hb.cell (World.block_lt_of_cell? w _ (hc i hi))).trans (hc i hi)⟩
theorem RD.lt {w : World} {g : Nat} {xs : List Int} {s : Bool} (h : RD w g xs s) : g < w.heap.size := by
  obtain ⟨_, _, _, _, hg, _⟩ := h
  exact (Array.getElem?_eq_some_iff.1 hg).1
theorem grownBy_trans {a b c : World} {row : Option Nat} (h : a.grownBy b row) (k : b.grownBy c row) : a.grownBy c row :=
  ⟨k.os.trans h.os, k.tape.trans h.tape, k.output.trans h.output, Nat.le_trans h.size k.size, fun i hi hr => (k.block i (Nat.lt_of_lt_of_le hi h.size) hr).trans (h.block i hi hr)⟩

theorem bytes_rd (g : Nat) (xs : List Int) (s : Bool) (n : Int) (hl : xs.length ≤ 1000000) (w : World) (h : RD w g xs s) : Calls Try.prog 38 #[.pointer (some ⟨g, 0, none⟩), .int .i64 n] w (BytesP w g xs s n) := by
  have H := Lib.hid h
  clear h
  go_enter Try.func38, Try.ntmps38
  go_wp2_with fail
  refine (take_rd g xs s n _ H.out).mono ?_
  rintro e w1 ⟨v, rfl, hs, _, hr, hg⟩
  obtain ⟨x, c, rfl, h63⟩ := hs.form
  have HS := Lib.hid hs
  have HR := Lib.hid hr
  have HG := Lib.hid hg
  have hgl := got_len xs s n
  clear hs hr hg
  go_wp2_with fail
  refine (filled _ (got xs s n) (got xs s n).length (Nat.le_refl _) (by omega) _ HS.out).mono ?_
  rintro e w2 ⟨rfl, hw⟩
  have HW := Lib.hid hw
  clear hw
  go_wp2_with fail
  go_ret
  have hb : Below w1.heap.size w1 w2 := by rw [← HW.out]; exact (Below.refl _ _).alloc (Nat.le_refl _) _
  refine ⟨w1.heap.size, rfl, ?_, HG.out.size, RD.below HR.out hb, ?_⟩
  · rw [← HW.out, Nat.sub_self]
    have := sees_alloc w1 (got xs s n) HS.out.1 (got xs s n).length (got xs s n).length rfl (Nat.le_refl _) (by unfold maxLen; omega) (List.replicate 0 0)
    exact this
  · rw [← HW.out]
    exact grownBy_trans HG.out (World.grownBy_alloc _ _ _)

/-! ### What a reader tells where there is enough -/
theorem rd_parts (p r : List Int) : got (p ++ r) false p.length = p ∧ rst (p ++ r) false p.length = r ∧ shrt (p ++ r).length false p.length = false := by
  have hs : shrt (p ++ r).length false (p.length : Int) = false := by simp [shrt]; omega
  refine ⟨?_, ?_, hs⟩
  · simp only [got, hs]
    simp [List.take_left']
  · simp only [rst, hs]
    simp [List.drop_left']
theorem getV_all (p : List Int) : getV p 0 p.length = numI p := by
  simp [getV]
def Rd64 (W : World) (g : Nat) (p r : List Int) (e : Ending) (w' : World) : Prop := e = .returned (.int .u64 (numI p)) ∧ RD w' g r false ∧ W.grownBy w' (some g)
def Rd32 (W : World) (g : Nat) (p r : List Int) (e : Ending) (w' : World) : Prop := e = .returned (.int .u32 (numI p)) ∧ RD w' g r false ∧ W.grownBy w' (some g)
theorem rd32 (g : Nat) (p r : List Int) (hp : p.length = 4) (W : World) (h : RD W g (p ++ r) false) : Calls Try.prog 26 #[.pointer (some ⟨g, 0, none⟩)] W (Rd32 W g p r) := by
  have hq := rd_parts p r
  have hv := getV_all p
  rw [hp] at hq hv
  refine (u32 g _ false W h).mono ?_
  rintro e w' ⟨rfl, hr, hgr⟩
  have e1 : got (p ++ r) false 4 = p := hq.1
  have e2 : rst (p ++ r) false 4 = r := hq.2.1
  have e3 : shrt (p ++ r).length false 4 = false := hq.2.2
  have hv' : getV p 0 4 = numI p := hv
  rw [e1, hv']
  rw [e2, e3] at hr
  exact ⟨rfl, hr, hgr⟩
def Rd16 (W : World) (g : Nat) (p r : List Int) (e : Ending) (w' : World) : Prop := e = .returned (.int .u16 (numI p)) ∧ RD w' g r false ∧ W.grownBy w' (some g)
theorem rd16 (g : Nat) (p r : List Int) (hp : p.length = 2) (W : World) (h : RD W g (p ++ r) false) : Calls Try.prog 25 #[.pointer (some ⟨g, 0, none⟩)] W (Rd16 W g p r) := by
  have hq := rd_parts p r
  have hv := getV_all p
  rw [hp] at hq hv
  refine (u16 g _ false W h).mono ?_
  rintro e w' ⟨rfl, hr, hgr⟩
  have e1 : got (p ++ r) false 2 = p := hq.1
  have e2 : rst (p ++ r) false 2 = r := hq.2.1
  have e3 : shrt (p ++ r).length false 2 = false := hq.2.2
  have hv' : getV p 0 2 = numI p := hv
  rw [e1, hv']
  rw [e2, e3] at hr
  exact ⟨rfl, hr, hgr⟩
def Rd8 (W : World) (g : Nat) (p r : List Int) (e : Ending) (w' : World) : Prop := e = .returned (.int .u8 (numI p)) ∧ RD w' g r false ∧ W.grownBy w' (some g)
def RdB (W : World) (g n : Nat) (p r : List Int) (e : Ending) (w' : World) : Prop := ∃ q, e = .returned (.slice (some ⟨q, 0, none⟩) n n) ∧ Sees w' (.slice (some ⟨q, 0, none⟩) n n) p ∧ W.heap.size ≤ q ∧ RD w' g r false ∧ W.grownBy w' (some g)
theorem rdB (g n : Nat) (p r : List Int) (hp : p.length = n) (hl : (p ++ r).length ≤ 1000000) (W : World) (h : RD W g (p ++ r) false) : Calls Try.prog 38 #[.pointer (some ⟨g, 0, none⟩), .int .i64 n] W (RdB W g n p r) := by
  have hq := rd_parts p r
  rw [hp] at hq
  refine (bytes_rd g _ false n hl W h).mono ?_
  rintro e w' ⟨q, rfl, hs, hsz, hr, hgr⟩
  rw [hq.1, hp] at hs ⊢
  rw [hq.2.1, hq.2.2] at hr
  exact ⟨q, rfl, hs, hsz, hr, hgr⟩
end Go.Proofs.Ytabopcfhonkecaa.rx
