/-
  The step from a walk to a row, for every law of this seat: where the law returns true, and nothing that was there has turned, the row's post holds; and what the arguments read as. Condition: the arguments' types can be read.
-/
import Derived.Test.YtfdihgahegfamaaF
import Derived.Deep.Slices
import Derived.Deep.Fields
import Derived.ChangeSame
namespace Go.Proofs.Ytfdihgahegfamaa
open Go.ChangeShapes Go.WideShapes Go.ChangeAt Go.RowKit Go.Deep

theorem own : ownKnob Try.prog.godebug = none := by kernel_rfl
theorem laid : laidOutB Try.prog = true := by kernel_rfl

theorem all_stay {H : Type} {enc : TypeId × Value → H} {P : Program} (hl : laidOutB P = true) {W W' : World} (hb : Below W.heap.size W W') (ts : List TypeId) :
    ∀ (vs : List Value) (ds : List (DataW H)) (ps : List MemPlace), ts.all (fun t => P.readableRec t && decide (t < P.types.size)) = true → (∀ p ∈ ps, p.block < W.heap.size) →
      DataW.TrodAll enc P W 0 (fun _ => true) true ts vs ds ps → DataW.TrodAll enc P W' 0 (fun b => decide (b < W.heap.size)) true ts vs ds ps := by
  induction ts with
  | nil =>
    intro vs ds ps _ _ h
    cases vs <;> cases ds <;> simp_all [DataW.TrodAll]
  | cons t ts ih =>
    intro vs ds ps hr hp h
    cases vs with
    | nil => exact (h : False).elim
    | cons v vs =>
      cases ds with
      | nil => exact (h : False).elim
      | cons d ds =>
        obtain ⟨p, q, h1, h2, e⟩ := h
        subst e
        rw [List.all_cons, Bool.and_eq_true, Bool.and_eq_true] at hr
        exact ⟨p, q, Below.trod hl hr.1.1 (of_decide_eq_true hr.1.2) h1 hb (fun x hx => hp x (List.mem_append_left _ hx)),
          ih vs ds q hr.2 (fun x hx => hp x (List.mem_append_right _ hx)) h2, rfl⟩

theorem law_post {H : Type} {enc : TypeId × Value → H} {f : Func} {s : ChangeSpec} {W W' : World} {args : Array Value} {ds gs : List (DataW H)} {before : List MemPlace}
    (hW : DataW.Whole enc Try.prog f.params.toList s.vars false W args.toList ds gs before) (hv : s.vars = []) (hs : s.fn H (ds ++ gs) = { results := [.lit (.bool true)], args := ds })
    (hr : f.resultTypes = #[4]) (hp : f.params.toList.all (fun t => Try.prog.readableRec t && decide (t < Try.prog.types.size)) = true) (hb : Below W.heap.size W W') :
    s.post enc Try.prog f false true false false W args (.bool true) W' := by
  have hlt : ∀ p ∈ before, p.block < W.heap.size := fun p hp => hW.lt p hp
  have hW' := hW
  obtain ⟨p, q, hA, hV, he, _, _⟩ := hW'
  rw [hv] at hV
  obtain ⟨rfl, rfl⟩ := trodVars_none hV
  subst he
  refine ⟨ds, [], _, [], p, [], hW, ?_, ?_, ?_, ?_, fun h => by cases h⟩
  · rw [hs, hr]
    exact trodAll_mk1 (shut_bool Try.underlying4 _)
  · rw [hs]
    exact all_stay laid hb _ _ _ _ hp (fun x hx => hlt x (List.mem_append_left _ hx)) hA
  · rw [hs, hv]
    rfl
  · exact hb.frame _


theorem cells3 : Try.prog.cellsOf 3 = 1 := by kernel_rfl
theorem cells5 : Try.prog.cellsOf 5 = 1 := by kernel_rfl
section
variable {H : Type} {enc : TypeId × Value → H} {w : World} {r : Reach} {b0 base : Nat} {v : Value} {d : DataW H} {ps : List MemPlace}
set_option maxRecDepth 100000 in
/-- A slice of ints that came in. -/
theorem open_si (hval : Value.okWide Try.prog w r b0 29 v) (hd : DataW.Trod enc Try.prog w base (fun _ => true) true 29 v d ps) : ∃ xs, SI w v xs := by
  obtain ⟨fuel, hf⟩ := hd
  obtain ⟨x', l', k', rfl⟩ := okWide_slice Try.underlying29 hval
  rcases open_ints Try.underlying29 Try.underlying3 cells3 hf with ⟨hc, _⟩ | ⟨a, len, cap, zs, hc, _, hl, hm, hlen, _, hcell, hwf⟩
  · simp [Value.cells] at hc
    obtain ⟨rfl, rfl, rfl⟩ := hc
    exact ⟨[], _, _, rfl, by simp, Nat.zero_le _, fun k z hz => by simp at hz⟩
  · simp [Value.cells] at hc
    obtain ⟨rfl, rfl, rfl⟩ := hc
    rw [if_pos rfl] at hlen
    have hlz : (zs.take l').length = l' := by rw [List.length_take]; omega
    refine ⟨zs.take l', some a, k', by rw [hlz], by omega, hm, fun k z hz => ?_⟩
    have hk : k < l' := by have := (List.getElem?_eq_some_iff.1 hz).1; omega
    obtain ⟨b, o, rfl, h2⟩ := ints_at hcell (by omega)
    rw [List.getElem?_take_of_lt hk] at hz
    have h3 := h2 k (by omega)
    have e : zs.getD k 0 = z := by simp [List.getD, hz]
    rw [e] at h3
    exact ⟨b, o, rfl, World.block_lt_of_cell? w _ h3, h3⟩
/-- A slice of bytes. -/
def SB (w : World) (v : Value) (xs : List Int) : Prop :=
  ∃ x c, v = .slice x xs.length c ∧ xs.length ≤ c ∧ c ≤ maxLen ∧ ∀ k z, xs[k]? = some z → 0 ≤ z ∧ z ≤ 255 ∧ ∃ b o, x = some ⟨b, o, none⟩ ∧ b < w.heap.size ∧ w.cell? ⟨b, o + k, none⟩ = some (.int .u8 z)
set_option maxRecDepth 100000 in
theorem open_sb (hval : Value.okWide Try.prog w r b0 49 v) (hd : DataW.Trod enc Try.prog w base (fun _ => true) true 49 v d ps) : ∃ xs, SB w v xs := by
  obtain ⟨fuel, hf⟩ := hd
  obtain ⟨x', l', k', rfl⟩ := okWide_slice Try.underlying49 hval
  rcases open_ints Try.underlying49 Try.underlying5 cells5 hf with ⟨hc, _⟩ | ⟨a, len, cap, zs, hc, _, hl, hm, hlen, _, hcell, hwf⟩
  · simp [Value.cells] at hc
    obtain ⟨rfl, rfl, rfl⟩ := hc
    exact ⟨[], _, _, rfl, by simp, Nat.zero_le _, fun k z hz => by simp at hz⟩
  · simp [Value.cells] at hc
    obtain ⟨rfl, rfl, rfl⟩ := hc
    rw [if_pos rfl] at hlen
    have hlz : (zs.take l').length = l' := by rw [List.length_take]; omega
    refine ⟨zs.take l', some a, k', by rw [hlz], by omega, hm, fun k z hz => ?_⟩
    have hk : k < l' := by have := (List.getElem?_eq_some_iff.1 hz).1; omega
    obtain ⟨b, o, rfl, h2⟩ := ints_at hcell (by omega)
    rw [List.getElem?_take_of_lt hk] at hz
    have h3 := h2 k (by omega)
    have e : zs.getD k 0 = z := by simp [List.getD, hz]
    rw [e] at h3
    have hbd := bounds_u8 (hwf z (by obtain ⟨_, rfl⟩ := List.getElem?_eq_some_iff.1 hz; exact List.getElem_mem _))
    exact ⟨hbd.1, hbd.2, b, o, rfl, World.block_lt_of_cell? w _ h3, h3⟩
/-- A slice of L structs of m ints each. -/
def SO (m : Nat) (w : World) (v : Value) (L : Nat) (f : Nat → Nat → Int) : Prop :=
  ∃ x c, v = .slice x L c ∧ L ≤ c ∧ c ≤ maxLen ∧ ∀ i j, i < L → j < m → -9223372036854775808 ≤ f i j ∧ f i j ≤ 9223372036854775807 ∧ ∃ b o, x = some ⟨b, o, none⟩ ∧ b < w.heap.size ∧ w.cell? ⟨b, o + (i * m + j), none⟩ = some (.int .i64 (f i j))
set_option maxRecDepth 100000 in
theorem open_so {t e : TypeId} {fs : Array Field} (ht : Try.prog.underlying t = some (.slice e)) (he : Try.prog.underlying e = some (.struct fs)) (hone : oneCellFields Try.prog fs = true) (hC : Try.prog.cellsOf e = fs.size) (hty : ∀ (j : Nat) (f : Field), fs[j]? = some f → f.type = 3) (hp : 0 < fs.size)
    (hval : Value.okWide Try.prog w r b0 t v) (hd : DataW.Trod enc Try.prog w base (fun _ => true) true t v d ps) : ∃ L f, SO fs.size w v L f := by
  obtain ⟨fuel, hf⟩ := hd
  obtain ⟨x', l', k', rfl⟩ := okWide_slice ht hval
  rcases open_slice ht hf with ⟨hc, _⟩ | ⟨a, len, cap, m, n, D, Pl, hc, _, hl, hm, hmm, hx, hi⟩
  · simp [Value.cells] at hc
    obtain ⟨rfl, rfl, rfl⟩ := hc
    exact ⟨0, fun _ _ => 0, _, _, rfl, by simp, Nat.zero_le _, fun i j h => by omega⟩
  · simp [Value.cells] at hc
    obtain ⟨rfl, rfl, rfl⟩ := hc
    rw [if_pos rfl] at hmm
    have key : ∀ i j, i < l' → j < fs.size → ∃ z : Int, (-9223372036854775808 ≤ z ∧ z ≤ 9223372036854775807) ∧ w.cell? (a.add (i * fs.size + j)) = some (.int .i64 z) := by
      intro i j hil hj
      obtain ⟨cs', h1, h2⟩ := hi i (by omega)
      rw [hC] at h1
      obtain ⟨xs, n', _, _, _, hxl, hg⟩ := DataW.trod_struct he h2
      obtain ⟨_, hcl, hat⟩ := World.cells?_some h1
      have hjf : fs[j]? = some fs[j] := by simp [hj]
      obtain ⟨ho, hk⟩ := hone_of hone j _ hjf
      have h3 := hg j _ hjf
      rw [ho, hk] at h3
      have h4 : (cs'.drop j).take 1 = [cs'[j]'(by omega)] := by
        rw [List.drop_eq_getElem_cons (by omega)]
        rfl
      have h5 : xs[j]? = some (xs[j]'(by omega)) := List.getElem?_eq_getElem (by omega)
      rw [h4, h5, hty j _ hjf] at h3
      obtain ⟨z, hz, _, hwf⟩ := DataW.trod_int Try.underlying3 h3
      refine ⟨z, bounds_i64 hwf, ?_⟩
      have h6 := hat j hj
      rw [List.getElem?_eq_getElem (by omega)] at h6
      rw [← Go.Deep.add_add, h6]
      simp at hz
      rw [hz]
    obtain ⟨f, hF⟩ : ∃ f : Nat → Nat → Int, ∀ i j, i < l' → j < fs.size → (-9223372036854775808 ≤ f i j ∧ f i j ≤ 9223372036854775807) ∧ w.cell? (a.add (i * fs.size + j)) = some (.int .i64 (f i j)) := by
      refine ⟨fun i j => if h : i < l' ∧ j < fs.size then (key i j h.1 h.2).choose else 0, fun i j h1 h2 => ?_⟩
      simp only [dif_pos (And.intro h1 h2)]
      exact (key i j h1 h2).choose_spec
    refine ⟨l', f, some a, k', rfl, by omega, hm, fun i j hil hj => ⟨(hF i j hil hj).1.1, (hF i j hil hj).1.2, ?_⟩⟩
    have h1 := (hF i j hil hj).2
    have h0 := (hF 0 0 (by omega) hp).2
    obtain ⟨b, o, spot⟩ := a
    have hspot : spot = none := by simpa [Addr.add] using World.cell?_spot h0
    subst hspot
    have h2 : w.cell? ⟨b, o + (i * fs.size + j), none⟩ = some (.int .i64 (f i j)) := by rw [← addr_add]; exact h1
    exact ⟨b, o, rfl, World.block_lt_of_cell? w _ h2, h2⟩
end
end Go.Proofs.Ytfdihgahegfamaa
