/-
  Contracts of the document's own lanes: Len, Put, Take. Condition: the lanes lie in memory as rows of a row.
-/
import Derived.Test.YtfdihgahegfamaaO
import Derived.Deep.QuietTactic
import Derived.BigQuiet
import Derived.IntWalk
import Derived.RegionTactic
import Derived.Deep.RegionHeld
import Derived.Deep.LoopGhost
namespace Go.Proofs.Ytfdihgahegfamaa
open Go.RowKit
/-- A function turned at one place. -/
def upd {T : Type} (f : Nat → T) (m : Nat) (x : T) : Nat → T := fun j => if j = m then x else f j
theorem upd_self {T : Type} (f : Nat → T) (m : Nat) (x : T) : upd f m x m = x := if_pos rfl
theorem upd_ne {T : Type} (f : Nat → T) (m j : Nat) (x : T) (h : j ≠ m) : upd f m x j = f j := if_neg h
/-- The document's lanes: a row of rows, and a size. -/
structure DL (w : World) (gx n size : Nat) (u : Value) (vs : Nat → Value) (R : Nat → List Int) : Prop where
  hx : w.heap[gx]? = some (.cells #[u, .int .i64 size] 116 (0, 0))
  hq : Rw w 29 1 u n ((List.range n).map vs)
  hr : ∀ j, j < n → Rw w 3 1 (vs j) (R j).length ((R j).map (Value.int .i64))
  ap : ∀ i j, i < n → j < n → i ≠ j → ∀ k, (vs i).ownBlock = some k → (vs j).ownBlock ≠ some k
/-- Their blocks. -/
def DB (gx n : Nat) (u : Value) (vs : Nat → Value) (k : Nat) : Prop := k = gx ∨ u.ownBlock = some k ∨ ∃ j, j < n ∧ (vs j).ownBlock = some k
section
variable {w w' w1 : World} {gx n size : Nat} {u : Value} {vs : Nat → Value} {R : Nat → List Int}
theorem DL.c0 (h : DL w gx n size u vs R) : w.cell? ⟨gx, 0, none⟩ = some u := by rw [cell_of_row _ _ _ _ _ _ h.hx]; rfl
theorem DL.c1 (h : DL w gx n size u vs R) : w.cell? ⟨gx, 1, none⟩ = some (.int .i64 size) := by rw [cell_of_row _ _ _ _ _ _ h.hx]; rfl
theorem DL.lt (h : DL w gx n size u vs R) {k : Nat} (hk : DB gx n u vs k) : k < w.heap.size := by
  rcases hk with rfl | hk | ⟨j, hj, hk⟩
  · exact (Array.getElem?_eq_some_iff.1 h.hx).1
  · exact h.hq.lt k hk
  · exact (h.hr j hj).lt k hk
theorem DL.mods {S : Nat → Prop} (h : DL w gx n size u vs R) (hm : Mods S w w') (hS : ∀ k, DB gx n u vs k → ¬ S k) : DL w' gx n size u vs R :=
  ⟨(hm.block gx (Array.getElem?_eq_some_iff.1 h.hx).1 (hS gx (.inl rfl))).trans h.hx, h.hq.mods hm (fun k hk => hS k (.inr (.inl hk))), fun j hj => (h.hr j hj).mods hm (fun k hk => hS k (.inr (.inr ⟨j, hj, hk⟩))), h.ap⟩
theorem DL.below (h : DL w gx n size u vs R) (hb : Below w.heap.size w w') : DL w' gx n size u vs R := h.mods (S := fun _ => False) (Mods.of_below hb) (fun _ _ => id)
theorem DL.row (h : DL w gx n size u vs R) {k : Nat} (hk : k < n) : ∃ b o c, u = .slice (some ⟨b, o, none⟩) n c ∧ n ≤ c ∧ c ≤ maxLen ∧ w.cell? ⟨b, o + k, none⟩ = some (vs k) ∧ w.frozen? ⟨b, o + k, none⟩ = false := by
  obtain ⟨x, c, rfl, h1, h2⟩ := h.hq.form
  obtain ⟨b, o, rfl, h3, h4⟩ := h.hq.cell (j := k) (u := vs k) (by simp [hk])
  exact ⟨b, o, c, rfl, h1, h2, h3, h4⟩
theorem own3 {v : Value} {n : Nat} {xs : List Value} (h : Rw w 3 1 v n xs) {k : Nat} (hk : v.ownBlock = some k) : ∃ cs, w.heap[k]? = some (.cells cs 3 (0, 0)) := by
  rcases h.2.2 with ⟨rfl, _⟩ | ⟨b, o, cap, cs, rfl, hg, _⟩
  · simp [Value.ownBlock] at hk
  · simp [Value.ownBlock] at hk
    subst hk
    exact ⟨cs, hg⟩
/-- A row is turned. -/
theorem DL.set (h : DL w gx n size u vs R) {m : Nat} (hmn : m < n) {v' : Value} {ys : List Int} (hr : Rw w1 3 1 v' ys.length (ys.map (Value.int .i64))) (h1 : v'.oneCell' = true) (hm : Mods (fun k => (vs m).ownBlock = some k) w w1) (ha : Anew w (vs m) v') {b o c : Nat} (hu : u = .slice (some ⟨b, o, none⟩) n c) :
    w1.cell? ⟨b, o + m, none⟩ = some (vs m) ∧ w1.frozen? ⟨b, o + m, none⟩ = false ∧ DL (w1.setCell ⟨b, o + m, none⟩ v') gx n size u (upd vs m v') (upd R m ys) ∧ Mods (DB gx n u vs) w (w1.setCell ⟨b, o + m, none⟩ v') ∧ ∀ k, DB gx n u (upd vs m v') k → DB gx n u vs k ∨ w.heap.size ≤ k := by
  have hset : Mods (fun k => k = b) w1 (w1.setCell ⟨b, o + m, none⟩ v') := Mods.set _ ⟨b, o + m, none⟩ _ rfl
  have hall : Mods (fun k => k = b ∨ (vs m).ownBlock = some k) w (w1.setCell ⟨b, o + m, none⟩ v') := (hm.mono (fun _ hb => .inl (.inr hb))).trans hset (fun _ hb => .inl (.inl hb))
  obtain ⟨hl, h1q, hq⟩ := h.hq
  obtain ⟨b', o', cap, cs, hu', hg, q1, q2, q3, q4⟩ : ∃ b o cap cs, u = .slice (some ⟨b, o, none⟩) n cap ∧ w.heap[b]? = some (.cells cs 29 (0, 0)) ∧ o + cap * 1 ≤ cs.size ∧ n ≤ cap ∧ cap ≤ maxLen ∧ ∀ j x, ((List.range n).map vs)[j]? = some x → cs[o + j]? = some x := by
    rcases hq with ⟨_, h0⟩ | hq
    · omega
    · exact hq
  have hub := hu'
  rw [hu] at hub
  simp only [Value.slice.injEq, Option.some.injEq, Addr.mk.injEq] at hub
  obtain ⟨⟨rfl, rfl, _⟩, _, rfl⟩ := hub
  have ty : ∀ {k t : Nat} {cs : Array Value}, w.heap[k]? = some (.cells cs t (0, 0)) → t ≠ 3 → ¬ (vs m).ownBlock = some k := fun hk ht e => (h.hr m hmn).ty hk (fun e2 => ht e2.symm) e
  have hg1 : w1.heap[b]? = some (.cells cs 29 (0, 0)) := (hm.block b (Array.getElem?_eq_some_iff.1 hg).1 (ty hg (by decide))).trans hg
  have hcm : cs[o + m]? = some (vs m) := q4 m _ (by simp [hmn])
  have hne : ∀ {k t : Nat} {cs : Array Value}, w.heap[k]? = some (.cells cs t (0, 0)) → t ≠ 29 → ¬ k = b := fun hk ht e => by
    rw [e, hg] at hk; injection hk with hk; injection hk with _ ht2; exact ht ht2.symm
  have hgb : u.ownBlock = some b := by rw [hu]; rfl
  refine ⟨by rw [cell_of_row _ _ _ _ _ _ hg1]; exact hcm, by simp [World.frozen?, hg1], ⟨?_, ⟨?_, fun x hx => ?_, .inr ⟨b, o, c, cs.setIfInBounds (o + m) v', hu, ?_, by simpa using q1, q2, q3, fun j x hj => ?_⟩⟩, fun j hj => ?_, fun i j hi hj hij k hk hk2 => ?_⟩, hall.mono (fun k hk => ?_), fun k hk => ?_⟩
  · exact (hall.block gx (Array.getElem?_eq_some_iff.1 h.hx).1 (by rintro (e | e); exact hne h.hx (by decide) e; exact ty h.hx (by decide) e)).trans h.hx
  · simp
  · obtain ⟨j, hj, rfl⟩ := List.mem_map.1 hx
    by_cases hjm : j = m
    · subst hjm; rw [upd_self]; exact h1
    · rw [upd_ne _ _ _ _ hjm]; exact h1q _ (List.mem_map.2 ⟨j, hj, rfl⟩)
  · simp [World.setCell, Array.getElem?_modify, hg1]
  · have hjn : j < n := by have := (List.getElem?_eq_some_iff.1 hj).1; simpa using this
    have hx : x = upd vs m v' j := by simp [hjn] at hj; exact hj.symm
    rw [hx]
    by_cases hjm : j = m
    · subst hjm; rw [upd_self, Array.getElem?_setIfInBounds_self_of_lt (Array.getElem?_eq_some_iff.1 hcm).1]
    · rw [upd_ne _ _ _ _ hjm, Array.getElem?_setIfInBounds_ne (by omega)]
      exact q4 j _ (by simp [hjn])
  · by_cases hjm : j = m
    · subst hjm
      rw [upd_self, upd_self]
      exact hr.mods hset (fun k hk e => by
        subst e
        rcases ha _ hk with h1 | h1
        · exact ty hg (by decide) h1
        · have := (Array.getElem?_eq_some_iff.1 hg).1; omega)
    · rw [upd_ne _ _ _ _ hjm, upd_ne _ _ _ _ hjm]
      refine (h.hr j hj).mods hall (fun k hk e => ?_)
      rcases e with e | e
      · subst e; exact (h.hr j hj).ty hg (by decide) hk
      · exact h.ap j m hj hmn hjm k hk e
  · by_cases him : i = m
    · subst him
      rw [upd_self] at hk
      rw [upd_ne _ _ _ _ (fun e => hij e.symm)] at hk2
      rcases ha _ hk with h1 | h1
      · exact h.ap i j hi hj hij k h1 hk2
      · have := (h.hr j hj).lt k hk2; omega
    · rw [upd_ne _ _ _ _ him] at hk
      by_cases hjm : j = m
      · subst hjm
        rw [upd_self] at hk2
        rcases ha _ hk2 with h1 | h1
        · exact h.ap i j hi hj hij k hk h1
        · have := (h.hr i hi).lt k hk; omega
      · rw [upd_ne _ _ _ _ hjm] at hk2
        exact h.ap i j hi hj hij k hk hk2
  · rcases hk with rfl | hk
    · exact .inl (.inr (.inl hgb))
    · exact .inl (.inr (.inr ⟨m, hmn, hk⟩))
  · rcases hk with hk | hk | ⟨j, hj, hk⟩
    · exact .inl (.inl hk)
    · exact .inl (.inr (.inl hk))
    · by_cases hjm : j = m
      · subst hjm
        rw [upd_self] at hk
        rcases ha _ hk with h1 | h1
        · exact .inl (.inr (.inr ⟨j, hj, h1⟩))
        · exact .inr h1
      · rw [upd_ne _ _ _ _ hjm] at hk
        exact .inl (.inr (.inr ⟨j, hj, hk⟩))
end
section
variable {w : World} {gx n size : Nat} {u : Value} {vs : Nat → Value} {R : Nat → List Int}
theorem docLen_no (h : DL w gx n size u vs R) (i : Int) (hi : ¬ (0 ≤ i ∧ i < n)) : Calls Try.prog 44 #[.pointer (some ⟨gx, 0, none⟩), .int .i64 i] w fun e w' => e = .returned (.int .i64 0) ∧ w = w' := by
  have c0 := h.c0
  obtain ⟨x, c, rfl, hc1, hc2⟩ := h.hq.form
  clear h
  by_cases h0 : i < 0
  · clear hi
    go_enter Try.func44, Try.ntmps44
    go_wp2_with fail
    go_ret
    exact ⟨rfl, rfl⟩
  · have h2 : (n : Int) ≤ i := by omega
    clear hi
    go_enter Try.func44, Try.ntmps44
    go_wp2_with fail
    go_ret
    exact ⟨rfl, rfl⟩
theorem docLen (h : DL w gx n size u vs R) (k : Nat) (hk : k < n) : Calls Try.prog 44 #[.pointer (some ⟨gx, 0, none⟩), .int .i64 k] w fun e w' => e = .returned (.int .i64 (R k).length) ∧ w = w' := by
  have c0 := h.c0
  obtain ⟨b, o, c, rfl, hc1, hc2, hc3, _⟩ := h.row hk
  obtain ⟨x, cv, hv, hv1, hv2⟩ := (h.hr k hk).form
  rw [hv] at hc3
  unfold maxLen at hc2
  have h3 : ¬ n ≤ k := by omega
  clear h hv
  go_enter Try.func44, Try.ntmps44
  go_wp2_with fail
  go_ret
  exact ⟨rfl, rfl⟩
theorem docTake_arg (h : DL w gx n size u vs R) (i : Int) (hi : ¬ (0 ≤ i ∧ i < n)) : Calls Try.prog 75 #[.pointer (some ⟨gx, 0, none⟩), .int .i64 i] w fun e w' => e = .returned (.tuple #[.int .i64 0, .bool false]) ∧ w = w' := by
  have c0 := h.c0
  obtain ⟨x, c, rfl, hc1, hc2⟩ := h.hq.form
  clear h
  by_cases h0 : i < 0
  · clear hi
    go_enter Try.func75, Try.ntmps75
    go_wp2_with fail
    go_ret2
    exact ⟨rfl, rfl⟩
  · have h2 : (n : Int) ≤ i := by omega
    clear hi
    go_enter Try.func75, Try.ntmps75
    go_wp2_with fail
    go_ret2
    exact ⟨rfl, rfl⟩
theorem docTake_no (h : DL w gx n size u vs R) (k : Nat) (hk : k < n) (he : R k = []) : Calls Try.prog 75 #[.pointer (some ⟨gx, 0, none⟩), .int .i64 k] w fun e w' => e = .returned (.tuple #[.int .i64 0, .bool false]) ∧ w = w' := by
  have c0 := h.c0
  obtain ⟨b, o, c, rfl, hc1, hc2, hc3, _⟩ := h.row hk
  obtain ⟨x, cv, hv, hv1, hv2⟩ := (h.hr k hk).form
  rw [he, List.length_nil] at hv
  rw [hv] at hc3
  unfold maxLen at hc2
  have h3 : ¬ n ≤ k := by omega
  clear h hv he
  go_enter Try.func75, Try.ntmps75
  go_wp2_with fail
  go_ret2
  exact ⟨rfl, rfl⟩
theorem docPut_arg (h : DL w gx n size u vs R) (i : Int) (hi : ¬ (0 ≤ i ∧ i < n)) (x : Value) : Calls Try.prog 74 #[.pointer (some ⟨gx, 0, none⟩), .int .i64 i, x] w fun e w' => e = .returned (.int .i64 1) ∧ w = w' := by
  have c0 := h.c0
  obtain ⟨x, c, rfl, hc1, hc2⟩ := h.hq.form
  clear h
  by_cases h0 : i < 0
  · clear hi
    go_enter Try.func74, Try.ntmps74
    go_wp2_with fail
    go_ret
    exact ⟨rfl, rfl⟩
  · have h2 : (n : Int) ≤ i := by omega
    clear hi
    go_enter Try.func74, Try.ntmps74
    go_wp2_with fail
    go_ret
    exact ⟨rfl, rfl⟩
set_option maxRecDepth 100000 in
set_option maxHeartbeats 1000000 in
theorem docPut_full (h : DL w gx n size u vs R) (k : Nat) (hk : k < n) (hf : size ≤ (R k).length) (x : Value) : Calls Try.prog 74 #[.pointer (some ⟨gx, 0, none⟩), .int .i64 k, x] w fun e w' => e = .returned (.int .i64 5) ∧ ∃ q, w' = w.drewN q := by
  obtain ⟨b, o, c, rfl, hc1, hc2, hc3, _⟩ := h.row hk
  obtain ⟨y, cv, hv, hv1, hv2⟩ := (h.hr k hk).form
  rw [hv] at hc3
  have c0 : ∀ q, (w.drewN q).cell? ⟨gx, 0, none⟩ = some (.slice (some ⟨b, o, none⟩) n c) := fun q => h.c0
  have c1 : ∀ q, (w.drewN q).cell? ⟨gx, 1, none⟩ = some (.int .i64 size) := fun q => h.c1
  have c2 : ∀ q, (w.drewN q).cell? ⟨b, o + k, none⟩ = some (.slice y (R k).length cv) := fun q => hc3
  have c0' := h.c0
  have c1' := h.c1
  unfold maxLen at hc2
  have h3 : ¬ n ≤ k := by omega
  have hd : decide (size ≤ (R k).length) = true := by simpa using hf
  clear h hv hf
  go_enter Try.func74, Try.ntmps74
  go_wp2_with fail
  go_quiet (fail)
  go_wp2_with fail
  go_ret
  exact ⟨rfl, _, rfl⟩
/-- What a call that turns a row leaves. -/
def DocP (w : World) (gx n size : Nat) (u : Value) (vs : Nat → Value) (R : Nat → List Int) (k : Nat) (ys : List Int) (en e : Ending) (w' : World) : Prop :=
  e = en ∧ ∃ v', DL w' gx n size u (upd vs k v') (upd R k ys) ∧ Mods (DB gx n u vs) w w' ∧ ∀ j, DB gx n u (upd vs k v') j → DB gx n u vs j ∨ w.heap.size ≤ j
set_option maxRecDepth 100000 in
set_option maxHeartbeats 2000000 in
theorem docPut (h : DL w gx n size u vs R) (k : Nat) (hk : k < n) (hf : (R k).length < size) (h8 : size ≤ 8) (x : Int) : Calls Try.prog 74 #[.pointer (some ⟨gx, 0, none⟩), .int .i64 k, .int .i64 x] w (DocP w gx n size u vs R k (R k ++ [x]) (.returned (.int .i64 0))) := by
  obtain ⟨b, o, c, hu, hc1, hc2, hc3, _⟩ := h.row hk
  obtain ⟨y, cv, hv, hv1, hv2⟩ := (h.hr k hk).form
  have key : ∀ Wd : World, Wd.heap.size = w.heap.size → Below w.heap.size w Wd → ∃ y' c' w1, (Builtin.append_ #[29, 29] 29 #[.slice y (R k).length cv, .slice (some ⟨Wd.heap.size, 0, none⟩) 1 1]).run Try.prog (Wd.alloc (.cells #[.int .i64 x] 3)) = .ok (.slice y' ((R k).length + 1) c') w1 ∧
      w1.cell? ⟨b, o + k, none⟩ = some (.slice y (R k).length cv) ∧ w1.frozen? ⟨b, o + k, none⟩ = false ∧ w1.cell? ⟨gx, 0, none⟩ = some (.slice (some ⟨b, o, none⟩) n c) ∧ (w1.setCell ⟨b, o + k, none⟩ (.slice y' ((R k).length + 1) c')).cell? ⟨gx, 0, none⟩ = some (.slice (some ⟨b, o, none⟩) n c) ∧ DocP w gx n size u vs R k (R k ++ [x]) (.returned (.int .i64 0)) (.returned (.int .i64 0)) (w1.setCell ⟨b, o + k, none⟩ (.slice y' ((R k).length + 1) c')) := by
    intro Wd hsz hbd
    have hd := h.below hbd
    obtain ⟨y', c', w1, hrun, r1, r2, r3⟩ := (hd.hr k hk).pushI x (by omega)
    obtain ⟨s1, s2, s3, s4, s5⟩ := hd.set hk r1 (by simp [Value.oneCell']) r2 r3 hu
    have hgx : ¬ (vs k).ownBlock = some gx := fun e => (hd.hr k hk).ty hd.hx (by decide) e
    have e0 : w1.cell? ⟨gx, 0, none⟩ = some u := (World.cell?_of_block (r2.block gx (Array.getElem?_eq_some_iff.1 hd.hx).1 hgx)).trans hd.c0
    have e1 := s3.c0
    rw [hv] at hrun s1
    rw [hu] at e0 e1
    exact ⟨y', c', w1, hrun, s1, s2, e0, e1, rfl, _, s3, (Mods.of_below hbd).trans s4 (fun _ hb => .inl hb), fun j hj => by have := s5 j hj; rw [hsz] at this; exact this⟩
  have KEY := Lib.hid key
  have c0 : ∀ q, (w.drewN q).cell? ⟨gx, 0, none⟩ = some u := fun q => h.c0
  have c1 : ∀ q, (w.drewN q).cell? ⟨gx, 1, none⟩ = some (.int .i64 size) := fun q => h.c1
  rw [hv] at hc3
  have c2 : ∀ q, (w.drewN q).cell? ⟨b, o + k, none⟩ = some (.slice y (R k).length cv) := fun q => hc3
  have c0' := h.c0
  have c1' := h.c1
  rw [hu] at c0' c0
  have h3 : ¬ n ≤ k := by omega
  have hd : decide (size ≤ (R k).length) = false := by simp; omega
  unfold maxLen at hc2
  clear h hv hf key hu
  go_enter Try.func74, Try.ntmps74
  go_wp2_with fail
  go_quiet (fail)
  go_wp2_with fail
  refine wp_region_held_drew (S := fun W => W.cell? ⟨gx, 0, none⟩ = some (.slice (some ⟨b, o, none⟩) n c)) (by kernel_rfl) (c0 nq) (fun hS => ?_)
  refine' wpAnyH_take (i := 0) ?h1x0a ?hsx0a ?hfx0a ?hrx0a ?hQx0a (Or.inl ⟨?hwx0a, ?hyx0a⟩) hS ?restx0a
  case h1x0a => (simp only [List.getElem?_toArray, List.getElem?_cons_zero]; rfl)
  case hsx0a => kernel_rfl
  case hfx0a => kernel_rfl
  case hrx0a => kernel_rfl
  case hQx0a => exact fun _ _ _ h => h
  case hwx0a => rfl
  case hyx0a =>
    intro W hW
    go_simp
    try with_reducible rfl
  simp only [Act.put, List.setIfInBounds_toArray, List.set_cons_succ, List.set_cons_zero]
  refine' wpAnyH_take (i := 1) ?h1x1a ?hsx1a ?hfx1a ?hrx1a ?hQx1a (Or.inl ⟨?hwx1a, ?hyx1a⟩) hS ?restx1a
  case h1x1a => (simp only [List.getElem?_toArray, List.getElem?_cons_succ, List.getElem?_cons_zero]; rfl)
  case hsx1a => kernel_rfl
  case hfx1a => kernel_rfl
  case hrx1a => kernel_rfl
  case hQx1a => exact fun _ _ _ h => h
  case hwx1a => rfl
  case hyx1a =>
    intro W hW
    go_simp
    try with_reducible rfl
  simp only [Act.put, List.setIfInBounds_toArray, List.set_cons_succ, List.set_cons_zero]
  refine' wpAnyH_take (i := 2) ?h1x2a ?hsx2a ?hfx2a ?hrx2a ?hQx2a (Or.inl ⟨?hwx2a, ?hyx2a⟩) hS ?restx2a
  case h1x2a => (simp only [List.getElem?_toArray, List.getElem?_cons_succ, List.getElem?_cons_zero]; rfl)
  case hsx2a => kernel_rfl
  case hfx2a => kernel_rfl
  case hrx2a => kernel_rfl
  case hQx2a => exact fun _ _ _ h => h
  case hwx2a => rfl
  case hyx2a =>
    intro W hW
    go_simp
    try with_reducible rfl
  simp only [Act.put, List.setIfInBounds_toArray, List.set_cons_succ, List.set_cons_zero]
  refine' wpAnyH_take (i := 3) ?h1x3a ?hsx3a ?hfx3a ?hrx3a ?hQx3a (Or.inl ⟨?hwx3a, ?hyx3a⟩) hS ?restx3a
  case h1x3a => (simp only [List.getElem?_toArray, List.getElem?_cons_succ, List.getElem?_cons_zero]; rfl)
  case hsx3a => kernel_rfl
  case hfx3a => kernel_rfl
  case hrx3a => kernel_rfl
  case hQx3a => exact fun _ _ _ h => h
  case hwx3a => rfl
  case hyx3a =>
    intro W hW
    have dd := hW
    go_simp
    try with_reducible rfl
  simp only [Act.put, List.setIfInBounds_toArray, List.set_cons_succ, List.set_cons_zero]
  refine' wpAnyH_take (i := 4) ?h1x4a ?hsx4a ?hfx4a ?hrx4a ?hQx4a (Or.inl ⟨?hwx4a, ?hyx4a⟩) hS ?restx4a
  case h1x4a => (simp only [List.getElem?_toArray, List.getElem?_cons_succ, List.getElem?_cons_zero]; rfl)
  case hsx4a => kernel_rfl
  case hfx4a => kernel_rfl
  case hrx4a => kernel_rfl
  case hQx4a => exact fun _ _ _ h => h
  case hwx4a => rfl
  case hyx4a =>
    intro W hW
    go_simp
    try with_reducible rfl
  simp only [Act.put, List.setIfInBounds_toArray, List.set_cons_succ, List.set_cons_zero]
  refine' wpAnyH_take (i := 5) ?h1x5a ?hsx5a ?hfx5a ?hrx5a ?hQx5a (Or.inl ⟨?hwx5a, ?hyx5a⟩) hS ?restx5a
  case h1x5a => (simp only [List.getElem?_toArray, List.getElem?_cons_succ, List.getElem?_cons_zero]; rfl)
  case hsx5a => kernel_rfl
  case hfx5a => kernel_rfl
  case hrx5a => kernel_rfl
  case hQx5a => exact fun _ _ _ h => h
  case hwx5a => rfl
  case hyx5a =>
    intro W hW
    go_simp
    try with_reducible rfl
  simp only [Act.put, List.setIfInBounds_toArray, List.set_cons_succ, List.set_cons_zero]
  refine' wpAnyH_take (i := 6) ?h1x6a ?hsx6a ?hfx6a ?hrx6a ?hQx6a (Or.inl ⟨?hwx6a, ?hyx6a⟩) hS ?restx6a
  case h1x6a => (simp only [List.getElem?_toArray, List.getElem?_cons_succ, List.getElem?_cons_zero]; rfl)
  case hsx6a => kernel_rfl
  case hfx6a => kernel_rfl
  case hrx6a => kernel_rfl
  case hQx6a => exact fun _ _ _ h => h
  case hwx6a => rfl
  case hyx6a =>
    intro W hW
    go_simp
    try with_reducible rfl
  simp only [Act.put, List.setIfInBounds_toArray, List.set_cons_succ, List.set_cons_zero]
  refine' wpAnyH_take (i := 7) ?h1x7a ?hsx7a ?hfx7a ?hrx7a ?hQx7a (Or.inl ⟨?hwx7a, ?hyx7a⟩) hS ?restx7a
  case h1x7a => (simp only [List.getElem?_toArray, List.getElem?_cons_succ, List.getElem?_cons_zero]; rfl)
  case hsx7a => kernel_rfl
  case hfx7a => kernel_rfl
  case hrx7a => kernel_rfl
  case hQx7a => exact fun _ _ _ h => h
  case hwx7a => rfl
  case hyx7a =>
    intro W hW
    go_simp
    try with_reducible rfl
  simp only [Act.put, List.setIfInBounds_toArray, List.set_cons_succ, List.set_cons_zero]
  refine' wpAnyH_take (i := 8) ?h1x8a ?hsx8a ?hfx8a ?hrx8a ?hQx8a (Or.inl ⟨?hwx8a, ?hyx8a⟩) hS ?restx8a
  case h1x8a => (simp only [List.getElem?_toArray, List.getElem?_cons_succ, List.getElem?_cons_zero]; rfl)
  case hsx8a => kernel_rfl
  case hfx8a => kernel_rfl
  case hrx8a => kernel_rfl
  case hQx8a => exact fun _ _ _ h => h
  case hwx8a => rfl
  case hyx8a =>
    intro W hW
    have dd := hW
    go_simp
    try with_reducible rfl
  simp only [Act.put, List.setIfInBounds_toArray, List.set_cons_succ, List.set_cons_zero]
  refine' wpAnyH_take (i := 9) ?h1x9a ?hsx9a ?hfx9a ?hrx9a ?hQx9a (Or.inl ⟨?hwx9a, ?hyx9a⟩) hS ?restx9a
  case h1x9a => (simp only [List.getElem?_toArray, List.getElem?_cons_succ, List.getElem?_cons_zero]; rfl)
  case hsx9a => kernel_rfl
  case hfx9a => kernel_rfl
  case hrx9a => kernel_rfl
  case hQx9a => exact fun _ _ _ h => h
  case hwx9a => rfl
  case hyx9a =>
    intro W hW
    go_simp
    try with_reducible rfl
  simp only [Act.put, List.setIfInBounds_toArray, List.set_cons_succ, List.set_cons_zero]
  refine' wpAnyH_take (i := 10) ?h1x10a ?hsx10a ?hfx10a ?hrx10a ?hQx10a (Or.inl ⟨?hwx10a, ?hyx10a⟩) hS ?restx10a
  case h1x10a => (simp only [List.getElem?_toArray, List.getElem?_cons_succ, List.getElem?_cons_zero]; rfl)
  case hsx10a => kernel_rfl
  case hfx10a => kernel_rfl
  case hrx10a => kernel_rfl
  case hQx10a => exact fun _ _ _ h => h
  case hwx10a => rfl
  case hyx10a =>
    intro W hW
    go_simp
    try with_reducible rfl
  simp only [Act.put, List.setIfInBounds_toArray, List.set_cons_succ, List.set_cons_zero]
  refine' wpAnyH_take (i := 12) ?h1x12a ?hsx12a ?hfx12a ?hrx12a ?hQx12a (Or.inl ⟨?hwx12a, ?hyx12a⟩) hS ?restx12a
  case h1x12a => (simp only [List.getElem?_toArray, List.getElem?_cons_succ, List.getElem?_cons_zero]; rfl)
  case hsx12a => kernel_rfl
  case hfx12a => kernel_rfl
  case hrx12a => kernel_rfl
  case hQx12a => exact fun _ _ _ h => h
  case hwx12a => rfl
  case hyx12a =>
    intro W hW
    go_simp
    try with_reducible rfl
  simp only [Act.put, List.setIfInBounds_toArray, List.set_cons_succ, List.set_cons_zero]
  have hrow : ((w.drewN nq).drew).cell? ⟨b, o + k, none⟩ = some (.slice y (R k).length cv) := c2 nq
  obtain ⟨y', c', w1, k1, k2, k3, k6, k7, k4⟩ := KEY.out ((w.drewN nq).drew) rfl ⟨rfl, rfl, rfl, Nat.le_refl _, fun _ _ => rfl⟩
  have HRUN := Lib.hid k1
  have K2 := Lib.hid k2
  have K3 := Lib.hid k3
  have K4 := Lib.hid k4
  have HS1 := Lib.hid k6
  have HS2 := Lib.hid k7
  clear k1 k2 k3 k4 k6 k7 KEY c0 c1 c2 c0' c1' hc3
  generalize (w.drewN nq).drew = Wd at *
  refine wpAnyH_ready (rs := [11, 13]) (by kernel_rfl) (by simp) ?_
  refine' (AllReadyH.cons ?hoc11a (fun K hK => ?stc11a) (AllReadyH.cons ?hoc13a (fun K hK => ?stc13a) AllReadyH.nil))
  case hoc11a => (simp only [List.getElem?_toArray, List.getElem?_cons_succ, List.getElem?_cons_zero]; rfl)
  case hoc13a => (simp only [List.getElem?_toArray, List.getElem?_cons_succ, List.getElem?_cons_zero]; rfl)
  case stc11a =>
    have dd := hrow
    go_simp
    refine hK.out _ _ hS (fun hHeld => ?_)
    clear hK K dd
    try simp only [Act.put, List.setIfInBounds_toArray, List.set_cons_succ, List.set_cons_zero]
    clear hS
    have hS := hHeld
    clear hHeld
    refine wpAnyH_ready (rs := [13]) (by kernel_rfl) (by simp) ?_
    refine' AllReadyH.cons ?hoc13a11x (fun K hK => ?stc13a11x) AllReadyH.nil
    case hoc13a11x => (simp only [List.getElem?_toArray, List.getElem?_cons_succ, List.getElem?_cons_zero]; rfl)
    go_simp
    have hal : Below Wd.heap.size Wd (Wd.alloc (.cells #[.int .i64 x] 3)) := (Below.refl _ _).alloc (Nat.le_refl _) _
    refine hK.out _ _ ((hal.cell (p := ⟨gx, 0, none⟩) (World.block_lt_of_cell? Wd _ hS)).trans hS) (fun hHeld => ?_)
    clear hK K
    try simp only [Act.put, List.setIfInBounds_toArray, List.set_cons_succ, List.set_cons_zero]
    have hrow : (Wd.alloc (.cells #[.int .i64 x] 3)).cell? ⟨b, o + k, none⟩ = some (.slice y (R k).length cv) := (hal.cell (p := ⟨b, o + k, none⟩) (World.block_lt_of_cell? Wd _ hrow)).trans hrow
    clear hS
    have hS := hHeld
    clear hHeld
    clear hal
    refine wpAnyH_ready (rs := [14]) (by kernel_rfl) (by simp) ?_
    refine' AllReadyH.cons ?hoc14a11x13x (fun K hK => ?stc14a11x13x) AllReadyH.nil
    case hoc14a11x13x => (simp only [List.getElem?_toArray, List.getElem?_cons_succ, List.getElem?_cons_zero]; rfl)
    refine step_app_run rfl _ _ 29 rfl rfl rfl rfl HRUN.out ?_
    refine hK.out _ _ HS1.out (fun hHeld => ?_)
    clear hK K hrow
    try simp only [Act.put, List.setIfInBounds_toArray, List.set_cons_succ, List.set_cons_zero]
    clear hS
    have hS := hHeld
    clear hHeld
    refine' wpAnyH_take (i := 15) ?h1x15a11x13x ?hsx15a11x13x ?hfx15a11x13x ?hrx15a11x13x ?hQx15a11x13x (Or.inl ⟨?hwx15a11x13x, ?hyx15a11x13x⟩) hS ?restx15a11x13x
    case h1x15a11x13x => (simp only [List.getElem?_toArray, List.getElem?_cons_succ, List.getElem?_cons_zero]; rfl)
    case hsx15a11x13x => kernel_rfl
    case hfx15a11x13x => kernel_rfl
    case hrx15a11x13x => kernel_rfl
    case hQx15a11x13x => exact fun _ _ _ h => h
    case hwx15a11x13x => rfl
    case hyx15a11x13x =>
      intro W hW
      go_simp
      try with_reducible rfl
    simp only [Act.put, List.setIfInBounds_toArray, List.set_cons_succ, List.set_cons_zero]
    refine wpAnyH_ready (rs := [16]) (by kernel_rfl) (by simp) ?_
    refine' AllReadyH.cons ?hoc16a11x13x (fun K hK => ?stc16a11x13x) AllReadyH.nil
    case hoc16a11x13x => (simp only [List.getElem?_toArray, List.getElem?_cons_succ, List.getElem?_cons_zero]; rfl)
    have dd := K2.out
    have df := K3.out
    go_simp
    refine hK.out _ _ HS2.out (fun hHeld => ?_)
    clear hK K dd df
    try simp only [Act.put, List.setIfInBounds_toArray, List.set_cons_succ, List.set_cons_zero]
    refine wpAnyH_done (by kernel_rfl) ?_ _
    go_wp2_with fail
    go_ret
    exact K4.out
  case stc13a =>
    go_simp
    have hal : Below Wd.heap.size Wd (Wd.alloc (.cells #[.int .i64 x] 3)) := (Below.refl _ _).alloc (Nat.le_refl _) _
    refine hK.out _ _ ((hal.cell (p := ⟨gx, 0, none⟩) (World.block_lt_of_cell? Wd _ hS)).trans hS) (fun hHeld => ?_)
    clear hK K
    try simp only [Act.put, List.setIfInBounds_toArray, List.set_cons_succ, List.set_cons_zero]
    have hrow : (Wd.alloc (.cells #[.int .i64 x] 3)).cell? ⟨b, o + k, none⟩ = some (.slice y (R k).length cv) := (hal.cell (p := ⟨b, o + k, none⟩) (World.block_lt_of_cell? Wd _ hrow)).trans hrow
    clear hS
    have hS := hHeld
    clear hHeld
    clear hal
    refine wpAnyH_ready (rs := [11]) (by kernel_rfl) (by simp) ?_
    refine' AllReadyH.cons ?hoc11a13x (fun K hK => ?stc11a13x) AllReadyH.nil
    case hoc11a13x => (simp only [List.getElem?_toArray, List.getElem?_cons_succ, List.getElem?_cons_zero]; rfl)
    have dd := hrow
    go_simp
    refine hK.out _ _ hS (fun hHeld => ?_)
    clear hK K dd
    try simp only [Act.put, List.setIfInBounds_toArray, List.set_cons_succ, List.set_cons_zero]
    clear hS
    have hS := hHeld
    clear hHeld
    refine wpAnyH_ready (rs := [14]) (by kernel_rfl) (by simp) ?_
    refine' AllReadyH.cons ?hoc14a13x11x (fun K hK => ?stc14a13x11x) AllReadyH.nil
    case hoc14a13x11x => (simp only [List.getElem?_toArray, List.getElem?_cons_succ, List.getElem?_cons_zero]; rfl)
    refine step_app_run rfl _ _ 29 rfl rfl rfl rfl HRUN.out ?_
    refine hK.out _ _ HS1.out (fun hHeld => ?_)
    clear hK K hrow
    try simp only [Act.put, List.setIfInBounds_toArray, List.set_cons_succ, List.set_cons_zero]
    clear hS
    have hS := hHeld
    clear hHeld
    refine' wpAnyH_take (i := 15) ?h1x15a13x11x ?hsx15a13x11x ?hfx15a13x11x ?hrx15a13x11x ?hQx15a13x11x (Or.inl ⟨?hwx15a13x11x, ?hyx15a13x11x⟩) hS ?restx15a13x11x
    case h1x15a13x11x => (simp only [List.getElem?_toArray, List.getElem?_cons_succ, List.getElem?_cons_zero]; rfl)
    case hsx15a13x11x => kernel_rfl
    case hfx15a13x11x => kernel_rfl
    case hrx15a13x11x => kernel_rfl
    case hQx15a13x11x => exact fun _ _ _ h => h
    case hwx15a13x11x => rfl
    case hyx15a13x11x =>
      intro W hW
      go_simp
      try with_reducible rfl
    simp only [Act.put, List.setIfInBounds_toArray, List.set_cons_succ, List.set_cons_zero]
    refine wpAnyH_ready (rs := [16]) (by kernel_rfl) (by simp) ?_
    refine' AllReadyH.cons ?hoc16a13x11x (fun K hK => ?stc16a13x11x) AllReadyH.nil
    case hoc16a13x11x => (simp only [List.getElem?_toArray, List.getElem?_cons_succ, List.getElem?_cons_zero]; rfl)
    have dd := K2.out
    have df := K3.out
    go_simp
    refine hK.out _ _ HS2.out (fun hHeld => ?_)
    clear hK K dd df
    try simp only [Act.put, List.setIfInBounds_toArray, List.set_cons_succ, List.set_cons_zero]
    refine wpAnyH_done (by kernel_rfl) ?_ _
    go_wp2_with fail
    go_ret
    exact K4.out
end
end Go.Proofs.Ytfdihgahegfamaa
