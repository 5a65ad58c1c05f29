/-
  Contracts of package bits: Equal; maps.Equal at ints. Condition: the rows lie in memory as a size, a map and words.
-/
import Derived.Test.YtklhnibmpdaioaaH
import Derived.Shelf.SlMaps.Equal
namespace Go.Proofs.Ytklhnibmpdaioaa
open Go.RowKit Go.Maps
open Go.WideElems (Fit rd rg pl rd_val rd_key rg_of)
/-- How an int element reads. -/
def RI (v : Value) : Option (DataW Value × List MemPlace) := match v with | .int .i64 _ => some (.held v, []) | _ => none
/-- Are two elements the same? -/
def eqd (a b : DataW Value) : Bool := match a, b with | .held (.int .i64 x), .held (.int .i64 y) => x == y | _, _ => false
theorem MapV.own {P : Program} {k : TypeId} {w : World} {b s : Nat} {f : Lit → Option Value} (h : MapV P k w b s f) (K : Keyed P k) (R : Value → Option (DataW Value × List MemPlace)) (hR : ∀ l v, f l = some v → R v = some (.held v, [])) :
    ∃ D, w.ownsMap P k R b s D ∧ Maps.size D = s ∧ ∀ l z, D.atKey l z = ent (f l) z := by
  obtain ⟨D, h1, h2, h3⟩ := h
  have hc := h1.entries K
  refine ⟨D, ?_, h2, h3⟩
  obtain ⟨es, clock, hb, F, hs, hD⟩ := h1
  obtain ⟨E, hE, hap, hk⟩ := hc
  obtain ⟨F1, hmap, _⟩ := F.stay (R' := R) (fun x hx z hz => by
    obtain ⟨y, hy⟩ := F.reads x hx
    have hm : rg P k RV x ∈ E := by
      rw [hD] at hE
      injection hE with hE
      rw [← hE]
      exact Go.mem_sorted.2 (List.mem_map.2 ⟨x, hx, rfl⟩)
    obtain ⟨z', hz', hy2⟩ := rd_val hy
    rw [rg_of hy] at hm
    have e1 := WideAt.atKey_mem (DataW.nil : DataW Value) (hk _ hm) hap hm
    rw [← hE, h3] at e1
    simp only [RV, Option.some.injEq] at hz hz'
    rw [← hz'] at hy2
    rw [hy2] at e1
    cases hf : f y.1 with
    | none => rw [hf] at e1; simp [ent] at e1
    | some v =>
      rw [hf] at e1
      simp only [ent, DataW.held.injEq] at e1
      rw [← hz, ← e1]
      exact hR _ _ hf)
  exact ⟨es, clock, hb, F1, hs, by rw [hmap]; exact hD⟩
theorem bf_int (f : Nat → Nat) (l : Lit) (v : Value) (h : bf f l = some v) : RI v = some (.held v, []) := by
  unfold bf at h
  split at h
  · split at h
    · cases h; rfl
    · cases h
  · cases h
theorem RI_inv {v : Value} {d : DataW Value} {p : List MemPlace} (h : RI v = some (d, p)) : ∃ x, v = .int .i64 x ∧ d = .held (.int .i64 x) := by
  unfold RI at h
  split at h
  · cases h; exact ⟨_, rfl, rfl⟩
  · cases h
theorem neq_ints {x y : Value} {xd yd : DataW Value} {xp yp : List MemPlace} (hx : RI x = some (xd, xp)) (hy : RI y = some (yd, yp)) (W : World) :
    (binOp .neq 3 x y).run Try.prog W = .ok (.bool (!eqd xd yd)) W ∧ ∀ (a b : Operand), (eqGuard .neq 3 a b x y).run Try.prog W = .ok () W := by
  obtain ⟨a, rfl, rfl⟩ := RI_inv hx
  obtain ⟨b, rfl, rfl⟩ := RI_inv hy
  have h3 := Try.underlying3
  refine ⟨?_, fun p q => ?_⟩
  · simp [go_sem, binOp, eqd, bne]
  · simp [go_sem]
set_option maxHeartbeats 4000000 in
set_option maxRecDepth 100000 in
theorem mequal {w : World} (b1 b2 n1 n2 : Nat) (D1 D2 : DataW Value) (h1 : w.ownsMap Try.prog 3 RI b1 n1 D1) (h2 : w.ownsMap Try.prog 3 RI b2 n2 D2) :
    Calls Try.prog 73 #[.map (some b1), .map (some b2)] w fun e w' => e = .returned (.bool (Lib.equalFuncD eqd D1 D2)) ∧ w.grownBy w' none := by
  have l1 := fun ty => h1.len (t := 79) Try.underlying79 ty
  have l2 := fun ty => h2.len (t := 79) Try.underlying79 ty
  obtain ⟨es1, rfl, hap, hkeys⟩ := h1.entries keyed3
  have hb2 := h2.lt
  have HQ : Hid (∀ (W : World) (x y : Value) (xd yd : DataW Value) (xp yp : List MemPlace), RI x = some (xd, xp) → RI y = some (yd, yp) → (binOp .neq 3 x y).run Try.prog W = .ok (.bool (!eqd xd yd)) W ∧ ∀ (a b : Operand), (eqGuard .neq 3 a b x y).run Try.prog W = .ok () W) :=
    fun W x y xd yd xp yp hx hy => neq_ints hx hy W
  have HZ : Hid (RI (.int .i64 0) = some (.held (.int .i64 0), [])) := by show _ = _; rfl
  generalize hres : Lib.equalFuncD eqd (.map es1) D2 = res
  have RES : Hid (Lib.equalFuncD eqd (.map es1) D2 = res) := hres
  clear hres
  by_cases hsz : Maps.size (.map es1 : DataW Value) = Maps.size D2
  · go_enter Try.func73, Try.ntmps73
    go_wp2_with (first
      | (at_range; refine wpList_range_own _ rfl _ 79 rfl 3 3 keyed3 Try.underlying79 RI b1 n1 _ rfl h1 ?_; intro w0 hrg0 hg0 hs0)
      | go_in)
    go_frame
    go_loopw [5, 6, 7, 8] (fun _ _ _ _ wr => ∃ (left : Lit → Bool) (cnt : Nat), wr.ranges Try.prog 3 RI b1 w.heap.size n1 (.map es1) left cnt ∧ wr.ownsMap Try.prog 3 RI b2 n2 D2 ∧ w.grownBy wr none ∧ Hid (GoodAt eqd es1 D2 left))
      (fun _ _ _ _ wr => wr.rangeLeft b1 w.heap.size)
    case atStart => exact ⟨_, _, hrg0, h2.kept hg0 (by simp), hg0, good_start hkeys D2⟩
    case round =>
      obtain ⟨left, cnt, hrg, h2r, hgw, G⟩ := hrel
      go_wp2_with (first
        | (at_next; refine wpList_next_ranges _ rfl _ rfl 3 keyed3 RI id id (fun key _ _ => ⟨key, rfl⟩) (fun v _ _ => ⟨v, rfl⟩) b1 w.heap.size n1 _ _ _ rfl hrg ?_ ?_)
        | go_in)
      · intro _ hl0
        go_wp2
        go_ret
        exact ⟨by rw [← RES.out, all_good G.out hl0 hsz]; rfl, hgw⟩
      · intro x c kl yd yp w1 cnt1 hkey hlx hv hat hrg1 hlt hg1 hs1 hen
        have hgw1 : w.grownBy w1 none := hgw.andThen hg1 (fun j hj => by cases hj; exact Or.inl (Nat.le_refl _))
        have h2w1 := h2r.kept hg1 (fun e => by have := Option.some.inj e; omega)
        have HAT : Hid (∀ zd, (DataW.map es1).atKey kl zd = yd) := hat
        clear hat
        cases hh : Maps.has D2 kl
        · have hbad : Lib.goodD eqd D2 (kl, yd) = false := by unfold Lib.goodD; rw [hh]; rfl
          go_wp2_with (first
            | (at_lookup; refine wpList_lookup_own_ok _ rfl _ _ 79 rfl 3 3 keyed3 Try.underlying79 RI (zero3 _) _ _ HZ.out b2 n2 D2 rfl h2w1 _ kl rfl hkey ?_; intro v2 ps2 hv2; rw [hh]; go_frame)
            | go_in)
          go_ret
          exact ⟨by rw [← RES.out, bad_false hap hkeys HAT.out hbad]; rfl, hgw1⟩
        · cases he : eqd yd (D2.atKey kl (.held (.int .i64 0)))
          · have hbad : Lib.goodD eqd D2 (kl, yd) = false := by unfold Lib.goodD; rw [hh, atKey_indep hh .nil (.held (.int .i64 0)), he]; rfl
            go_wp2_with (first
              | (at_lookup; refine wpList_lookup_own_ok _ rfl _ _ 79 rfl 3 3 keyed3 Try.underlying79 RI (zero3 _) _ _ HZ.out b2 n2 D2 rfl h2w1 _ kl rfl hkey ?_; intro v2 ps2 hv2; rw [hh]; go_frame; have hc := fun W => (HQ.out W c v2 yd _ yp ps2 hv hv2).1; have hgd := fun W => (HQ.out W c v2 yd _ yp ps2 hv hv2).2; rw [he] at hc)
              | go_in)
            go_ret
            exact ⟨by rw [← RES.out, bad_false hap hkeys HAT.out hbad]; rfl, hgw1⟩
          · have hgood : Lib.goodD eqd D2 (kl, yd) = true := by unfold Lib.goodD; rw [hh, atKey_indep hh .nil (.held (.int .i64 0)), he]; rfl
            go_wp2_with (first
              | (at_lookup; refine wpList_lookup_own_ok _ rfl _ _ 79 rfl 3 3 keyed3 Try.underlying79 RI (zero3 _) _ _ HZ.out b2 n2 D2 rfl h2w1 _ kl rfl hkey ?_; intro v2 ps2 hv2; rw [hh]; go_frame; have hc := fun W => (HQ.out W c v2 yd _ yp ps2 hv hv2).1; have hgd := fun W => (HQ.out W c v2 yd _ yp ps2 hv hv2).2; rw [he] at hc)
              | go_in)
            go_roundw
            case rel => exact ⟨_, cnt1, hrg1, h2w1, hgw1, good_step hap hkeys HAT.out G.out hgood⟩
            case measure => rw [hrg1.left_eq, hrg.left_eq]; exact hlt
  · have hne : ¬ ((Maps.size (.map es1 : DataW Value) : Int) = (Maps.size D2 : Int)) := fun e => hsz (by exact_mod_cast e)
    go_enter Try.func73, Try.ntmps73
    go_wp2
    go_ret
    exact ⟨by rw [← RES.out, sizes_false hsz]; rfl, World.grownBy.refl _ _⟩
end Go.Proofs.Ytklhnibmpdaioaa
