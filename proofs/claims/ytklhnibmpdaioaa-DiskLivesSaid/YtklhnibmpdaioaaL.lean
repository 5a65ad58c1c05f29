/-
  The step from a walk to a row, for every law of this seat; what the arguments read as; and the fixed calls of bits (alive). Condition: the arguments' types can be read.
-/
import Derived.Test.YtklhnibmpdaioaaF
import Derived.Deep.Slices
import Derived.Deep.Fields
import Derived.ChangeSame
namespace Go.Proofs.Ytklhnibmpdaioaa
open Go.ChangeShapes Go.WideShapes Go.ChangeAt Go.RowKit Go.Deep

theorem own : ownKnob Try.prog.godebug = none := by kernel_rfl
theorem laid : laidOutB Try.prog = true := by kernel_rfl

theorem all_stay {H : Type} {enc : TypeId × Value → H} {P : Program} (hl : laidOutB P = true) {W W' : World} (hb : Below W.heap.size W W') (ts : List TypeId) :
    ∀ (vs : List Value) (ds : List (DataW H)) (ps : List MemPlace), ts.all (fun t => P.readableRec t && decide (t < P.types.size)) = true → (∀ p ∈ ps, p.block < W.heap.size) →
      DataW.TrodAll enc P W 0 (fun _ => true) true ts vs ds ps → DataW.TrodAll enc P W' 0 (fun b => decide (b < W.heap.size)) true ts vs ds ps := by
  induction ts with
  | nil =>
    intro vs ds ps _ _ h
    cases vs <;> cases ds <;> simp_all [DataW.TrodAll]
  | cons t ts ih =>
    intro vs ds ps hr hp h
    cases vs with
    | nil => exact (h : False).elim
    | cons v vs =>
      cases ds with
      | nil => exact (h : False).elim
      | cons d ds =>
        obtain ⟨p, q, h1, h2, e⟩ := h
        subst e
        rw [List.all_cons, Bool.and_eq_true, Bool.and_eq_true] at hr
        exact ⟨p, q, Below.trod hl hr.1.1 (of_decide_eq_true hr.1.2) h1 hb (fun x hx => hp x (List.mem_append_left _ hx)),
          ih vs ds q hr.2 (fun x hx => hp x (List.mem_append_right _ hx)) h2, rfl⟩

theorem law_post {H : Type} {enc : TypeId × Value → H} {f : Func} {s : ChangeSpec} {W W' : World} {args : Array Value} {ds gs : List (DataW H)} {before : List MemPlace}
    (hW : DataW.Whole enc Try.prog f.params.toList s.vars false W args.toList ds gs before) (hv : s.vars = []) (hs : s.fn H (ds ++ gs) = { results := [.lit (.bool true)], args := ds })
    (hr : f.resultTypes = #[4]) (hp : f.params.toList.all (fun t => Try.prog.readableRec t && decide (t < Try.prog.types.size)) = true) (hb : Below W.heap.size W W') :
    s.post enc Try.prog f false true false false W args (.bool true) W' := by
  have hlt : ∀ p ∈ before, p.block < W.heap.size := fun p hp => hW.lt p hp
  have hW' := hW
  obtain ⟨p, q, hA, hV, he, _, _⟩ := hW'
  rw [hv] at hV
  obtain ⟨rfl, rfl⟩ := trodVars_none hV
  subst he
  refine ⟨ds, [], _, [], p, [], hW, ?_, ?_, ?_, ?_, fun h => by cases h⟩
  · rw [hs, hr]
    exact trodAll_mk1 (shut_bool Try.underlying4 _)
  · rw [hs]
    exact all_stay laid hb _ _ _ _ hp (fun x hx => hlt x (List.mem_append_left _ hx)) hA
  · rw [hs, hv]
    rfl
  · exact hb.frame _


section
variable {H : Type} {enc : TypeId × Value → H} {w : World} {r : Reach} {b0 base : Nat} {v : Value} {d : DataW H} {ps : List MemPlace}
/-- A slice of L structs of m ints each. -/
def SO (m : Nat) (w : World) (v : Value) (L : Nat) (f : Nat → Nat → Int) : Prop :=
  ∃ x c, v = .slice x L c ∧ L ≤ c ∧ c ≤ maxLen ∧ ∀ i j, i < L → j < m → -9223372036854775808 ≤ f i j ∧ f i j ≤ 9223372036854775807 ∧ ∃ b o, x = some ⟨b, o, none⟩ ∧ b < w.heap.size ∧ w.cell? ⟨b, o + (i * m + j), none⟩ = some (.int .i64 (f i j))
set_option maxRecDepth 100000 in
theorem open_so {t e : TypeId} {fs : Array Field} (ht : Try.prog.underlying t = some (.slice e)) (he : Try.prog.underlying e = some (.struct fs)) (hone : oneCellFields Try.prog fs = true) (hC : Try.prog.cellsOf e = fs.size) (hty : ∀ (j : Nat) (f : Field), fs[j]? = some f → f.type = 3) (hp : 0 < fs.size)
    (hval : Value.okWide Try.prog w r b0 t v) (hd : DataW.Trod enc Try.prog w base (fun _ => true) true t v d ps) : ∃ L f, SO fs.size w v L f := by
  obtain ⟨fuel, hf⟩ := hd
  obtain ⟨x', l', k', rfl⟩ := okWide_slice ht hval
  rcases open_slice ht hf with ⟨hc, _⟩ | ⟨a, len, cap, m, n, D, Pl, hc, _, hl, hm, hmm, hx, hi⟩
  · simp [Value.cells] at hc
    obtain ⟨rfl, rfl, rfl⟩ := hc
    exact ⟨0, fun _ _ => 0, _, _, rfl, by simp, Nat.zero_le _, fun i j h => by omega⟩
  · simp [Value.cells] at hc
    obtain ⟨rfl, rfl, rfl⟩ := hc
    rw [if_pos rfl] at hmm
    have key : ∀ i j, i < l' → j < fs.size → ∃ z : Int, (-9223372036854775808 ≤ z ∧ z ≤ 9223372036854775807) ∧ w.cell? (a.add (i * fs.size + j)) = some (.int .i64 z) := by
      intro i j hil hj
      obtain ⟨cs', h1, h2⟩ := hi i (by omega)
      rw [hC] at h1
      obtain ⟨xs, n', _, _, _, hxl, hg⟩ := DataW.trod_struct he h2
      obtain ⟨_, hcl, hat⟩ := World.cells?_some h1
      have hjf : fs[j]? = some fs[j] := by simp [hj]
      obtain ⟨ho, hk⟩ := hone_of hone j _ hjf
      have h3 := hg j _ hjf
      rw [ho, hk] at h3
      have h4 : (cs'.drop j).take 1 = [cs'[j]'(by omega)] := by
        rw [List.drop_eq_getElem_cons (by omega)]
        rfl
      have h5 : xs[j]? = some (xs[j]'(by omega)) := List.getElem?_eq_getElem (by omega)
      rw [h4, h5, hty j _ hjf] at h3
      obtain ⟨z, hz, _, hwf⟩ := DataW.trod_int Try.underlying3 h3
      refine ⟨z, bounds_i64 hwf, ?_⟩
      have h6 := hat j hj
      rw [List.getElem?_eq_getElem (by omega)] at h6
      rw [← Go.Deep.add_add, h6]
      simp at hz
      rw [hz]
    obtain ⟨f, hF⟩ : ∃ f : Nat → Nat → Int, ∀ i j, i < l' → j < fs.size → (-9223372036854775808 ≤ f i j ∧ f i j ≤ 9223372036854775807) ∧ w.cell? (a.add (i * fs.size + j)) = some (.int .i64 (f i j)) := by
      refine ⟨fun i j => if h : i < l' ∧ j < fs.size then (key i j h.1 h.2).choose else 0, fun i j h1 h2 => ?_⟩
      simp only [dif_pos (And.intro h1 h2)]
      exact (key i j h1 h2).choose_spec
    refine ⟨l', f, some a, k', rfl, by omega, hm, fun i j hil hj => ⟨(hF i j hil hj).1.1, (hF i j hil hj).1.2, ?_⟩⟩
    have h1 := (hF i j hil hj).2
    have h0 := (hF 0 0 (by omega) hp).2
    obtain ⟨b, o, spot⟩ := a
    have hspot : spot = none := by simpa [Addr.add] using World.cell?_spot h0
    subst hspot
    have h2 : w.cell? ⟨b, o + (i * fs.size + j), none⟩ = some (.int .i64 (f i j)) := by rw [← addr_add]; exact h1
    exact ⟨b, o, rfl, World.block_lt_of_cell? w _ h2, h2⟩
end

theorem cells3 : Try.prog.cellsOf 3 = 1 := by kernel_rfl
theorem mods_below {B : Nat} {a w w' : World} {mb wb : Nat} (h : Below B a w) (k : Mods (Bt mb wb) w w') (hB : B ≤ w.heap.size) (h1 : B ≤ mb) (h2 : B ≤ wb) : Below B a w' :=
  Mods.below h k hB (fun b hb => by rcases hb with rfl | rfl <;> assumption)
set_option maxRecDepth 100000 in
set_option maxHeartbeats 1000000 in
theorem aliveB (w : World) : Calls Try.prog 34 #[] w fun e w' => e = .returned (.bool true) ∧ Below w.heap.size w w' := by
  go_enter Try.func34, Try.ntmps34
  go_wp2_with fail
  refine (newB 2 (by omega) (by omega) w).mono ?_
  rintro e w1 ⟨g, mb, wb, rfl, r, h1, h2, h3, hb⟩
  have R1 := Lib.hid r
  have B1 := Lib.hid hb
  have HM := Lib.hid (And.intro h2 h3)
  clear r hb h1 h2 h3
  go_wp2_with fail
  refine (holdB R1.out 0 (by omega) (by simp)).mono ?_
  rintro e w2 ⟨rfl, r, hm⟩
  have R2 : Hid (BR w2 g 2 mb wb (upd (fun _ => 0) 0 1)) := r
  have B2 := Lib.hid (mods_below B1.out hm B1.out.size HM.out.1 HM.out.2)
  clear r hm R1
  go_wp2_with fail
  refine (holdB R2.out 0 (by omega) (by simp [upd])).mono ?_
  rintro e w3 ⟨rfl, r, hm⟩
  have R3 : Hid (BR w3 g 2 mb wb (upd (upd (fun _ => 0) 0 1) 0 2)) := r
  have B3 := Lib.hid (mods_below B2.out hm B2.out.size HM.out.1 HM.out.2)
  clear r hm R2
  go_wp2_with fail
  refine (freeB R3.out 0).mono ?_
  rintro e w' ⟨p, b, rfl, hf, rfl⟩
  obtain ⟨rfl, rfl⟩ : p = 1 ∧ b = true := hf.one (.inl ⟨rfl, 1, rfl, by omega, by omega, by simp [upd], fun j h1 h2 => by obtain rfl : j = 0 := by omega
                                                                                                                          simp [upd]⟩)
  clear hf
  go_wp2_with fail
  refine (dropB_more R3.out 0 (by omega) (by simp [upd])).mono ?_
  rintro e w4 ⟨rfl, r, hm⟩
  have R4 : Hid (BR w4 g 2 mb wb (upd (upd (upd (fun _ => 0) 0 1) 0 2) 0 1)) := r
  have B4 := Lib.hid (mods_below B3.out hm B3.out.size HM.out.1 HM.out.2)
  clear r hm R3
  go_wp2_with fail
  refine (dropB_one R4.out 0 (by omega) (by simp [upd])).mono ?_
  rintro e w5 ⟨rfl, r, hm⟩
  have R5 : Hid (BR w5 g 2 mb wb (upd (upd (upd (upd (fun _ => 0) 0 1) 0 2) 0 1) 0 0)) := r
  have B5 := Lib.hid (mods_below B4.out hm B4.out.size HM.out.1 HM.out.2)
  clear r hm R4
  go_wp2_with fail
  refine (dropB_free R5.out 0 (by omega) (by simp [upd])).mono ?_
  rintro e w' ⟨rfl, rfl⟩
  have HC : Hid (cnt (upd (upd (upd (upd (fun _ => 0) 0 1) 0 2) 0 1) 0 0) 2 = 0) := by show _ = _; simp [cnt, upd]
  go_wp2_with (go_at_call 45; refine (takenB R5.out).mono ?_; rintro e w' ⟨rfl, rfl⟩; rw [HC.out])
  go_ret
  exact ⟨rfl, B5.out⟩
end Go.Proofs.Ytklhnibmpdaioaa
