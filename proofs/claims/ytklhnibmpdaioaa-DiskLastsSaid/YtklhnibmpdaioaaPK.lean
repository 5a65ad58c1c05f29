/-
  Contracts of Write, Flush, SetReg in one statement each: they go through, or tell that the disk is down. Condition: the disk lies in memory as said.
-/
import Derived.Test.YtklhnibmpdaioaaPJ
namespace Go.Proofs.Ytklhnibmpdaioaa.pv
open Go.RowKit
section
variable {P P' S : Nat → Prop} {w0 w w' : World} {g N sb hb : Nat} {wv : Value} {su : Nat → Option Nat} {ws : List (Nat × Nat)} {rg : List Value} {c p : Int} {d : Bool} {K K' : Nat}
theorem TX.to {v : Value} {xs : List Nat} (h : TX P w v xs) (m : Mods S w w') (hS : ∀ b cs, P b → w.heap[b]? = some (.cells cs 5 (0, 0)) → ¬ S b) (hP : ∀ b, b < w.heap.size → P b → P' b) : TX P' w' v xs := by
  obtain ⟨b, h0, rfl, h1⟩ := h
  have hl := (Array.getElem?_eq_some_iff.1 h1).1
  exact ⟨b, hP b hl h0, rfl, (m.block b hl (hS b _ h0 h1)).trans h1⟩
theorem SM.to {f : Lit → Option Value} {su : Nat → Option Nat} (h : SM P w f su) (m : Mods S w w') (hS : ∀ b cs, P b → w.heap[b]? = some (.cells cs 5 (0, 0)) → ¬ S b) (hP : ∀ b, b < w.heap.size → P b → P' b) : SM P' w' f su := fun s => by
  rcases h s with h1 | ⟨y, v, h1, h2, h3, h4⟩
  · exact .inl h1
  · exact .inr ⟨y, v, h1, h2, h3.to m hS hP, h4⟩
theorem WS.to (m : Mods S w w') (hS : ∀ b cs, P b → w.heap[b]? = some (.cells cs 5 (0, 0)) → ¬ S b) (hP : ∀ b, b < w.heap.size → P b → P' b) : ∀ {ws : List (Nat × Nat)} {vs : List Value}, WS P w ws vs → WS P' w' ws vs
  | [], _, h => h
  | (s, y) :: r, _, h => by
    obtain ⟨v, vs', e, h1, h2, h3, h4⟩ := h
    exact ⟨v, vs', e, h1, h2.to m hS hP, h3, WS.to m hS hP h4⟩
/-- Blocks that are not a disk's are turned; texts lie in blocks of another kind. -/
theorem DK.to (h : DK P w g N sb hb wv su ws rg c p d K) (m : Mods S w w') (hd : ∀ b, S b → ¬ Dt g sb hb wv b) (hS : ∀ b cs, P b → w.heap[b]? = some (.cells cs 5 (0, 0)) → ¬ S b) (hP : ∀ b, b < w.heap.size → P b → P' b) : DK P' w' g N sb hb wv su ws rg c p d K := by
  have hn : ∀ b, Dt g sb hb wv b → ¬ S b := fun b hb' hs => hd b hs hb'
  obtain ⟨n1, f1, m1, b1, s1⟩ := h.sure
  obtain ⟨n2, f2, m2, b2, s2⟩ := h.shown
  obtain ⟨vs, r, q⟩ := h.waits
  exact ⟨h.n1, h.n2, (m.block g h.lt (hn g (.inl rfl))).trans h.row, h.len, ⟨n1, f1, m1.mods m (hn sb (.inr (.inl rfl))), b1, s1.to m hS hP⟩, ⟨n2, f2, m2.mods m (hn hb (.inr (.inr (.inl rfl)))), b2, s2.to m hS hP⟩, ⟨vs, r.mods m (fun k hk => hn k (.inr (.inr (.inr hk)))), WS.to m hS hP q⟩, h.ne, h.wl⟩
theorem DK.more (h : DK P w g N sb hb wv su ws rg c p d K) (h1 : K ≤ K') (h2 : K' ≤ 1000000) : DK P w g N sb hb wv su ws rg c p d K' := by
  obtain ⟨n1, f1, m1, b1, s1⟩ := h.sure
  obtain ⟨n2, f2, m2, b2, s2⟩ := h.shown
  exact ⟨h.n1, h.n2, h.row, h.len, ⟨n1, f1, m1, by omega, s1⟩, ⟨n2, f2, m2, by omega, s2⟩, h.waits, h.ne, h2⟩
theorem DkW.more {wv' : Value} (h : DkW P w w' g N sb hb wv wv' su ws rg c p d K) (h1 : K ≤ K') (h2 : K' ≤ 1000000) : DkW P w w' g N sb hb wv wv' su ws rg c p d K' := ⟨h.dk.more h1 h2, h.m, h.an⟩
theorem DkW.of_below (h : DK P w g N sb hb wv su ws rg c p d K) (b : Below w.heap.size w w') : DkW P w w' g N sb hb wv wv su ws rg c p d K := ⟨h.below b, Mods.of_below b, anew_same _ _⟩
/-- Nothing of a disk is in a block of other cells. -/
theorem DK.not {b : Nat} {cs : Array Value} {t : TypeId} {fr : Nat × Nat} (h : DK P w g N sb hb wv su ws rg c p d K) (h1 : w.heap[b]? = some (.cells cs t fr)) (h2 : t ≠ 51) (h3 : t ≠ 101) : ¬ Dt g sb hb wv b := by
  obtain ⟨n1, f1, m1, _⟩ := h.sure
  obtain ⟨n2, f2, m2, _⟩ := h.shown
  obtain ⟨vs, r, _⟩ := h.waits
  obtain ⟨es1, k1, hm1⟩ := m1.isMap
  obtain ⟨es2, k2, hm2⟩ := m2.isMap
  intro hd
  rcases hd with rfl | rfl | rfl | hd
  · rw [h.row] at h1; injection h1 with h1; injection h1 with _ e _; exact h2 e.symm
  · rw [hm1] at h1; cases h1
  · rw [hm2] at h1; cases h1
  · obtain ⟨_, cs', hc⟩ := r.lt b hd
    rw [hc] at h1; injection h1 with h1; injection h1 with _ e _; exact h3 e.symm
/-- A plan. -/
def PP (p : Int) : Prop := p = -1 ∨ (0 ≤ p ∧ p ≤ 9223372036854775807)
theorem PP.pl {p : Int} (h : PP p) (h0 : p ≠ 0) : PP (pl p) := by
  unfold PP Ytklhnibmpdaioaa.pl at *
  split <;> omega
theorem wE_isdown (s N n : Nat) : wE true s N n = 30 := by
  unfold wE
  by_cases h : s < N <;> by_cases h' : n = 512 <;> simp only [h, h', if_true, if_false] <;> rfl
/-- What a call that changes leaves. -/
def AnyP (P : Nat → Prop) (w : World) (g N sb hb : Nat) (wv : Value) (su su' : Nat → Option Nat) (ws ws' : List (Nat × Nat)) (rg rg' : List Value) (c : Int) (K : Nat) (e : Ending) (w' : World) : Prop :=
  ∃ (ok : Bool) (wv' : Value) (c' p' : Int) (d' : Bool), e = .returned (.int .i64 (if ok then 0 else 30)) ∧
    DkW P w w' g N sb hb wv wv' (if ok then su' else su) (if ok then ws' else ws) (if ok then rg' else rg) c' p' d' K ∧ 0 ≤ c' ∧ c' ≤ c + 1 ∧ PP p'
theorem writeAny (h : DK P w g N sb hb wv su ws rg c p d K) (s y : Nat) (v : Value) (hs : s < N) (hv : Go.Proofs.Ytklhnibmpdaioaa.TX w v (tx y)) (hP : ∀ b, w.heap.size ≤ b → P b) (hy : y < 256) (hc : 0 ≤ c) (hc2 : c ≤ 1000000) (hp : PP p) (hK : K < 1000000) :
    Calls Try.prog 27 #[.pointer (some ⟨g, 0, none⟩), .int .u32 s, v] w (AnyP P w g N sb hb wv su su ws (ws ++ [(s, y)]) rg rg c (K + 1)) := by
  cases d with
  | true =>
    obtain ⟨b, rfl, _⟩ := hv
    rw [tx_len]
    refine (writeD_err h s (some ⟨b, 0, none⟩) 512 512 (by omega) (by rw [wE_isdown]; decide)).mono ?_
    rintro e w' ⟨rfl, hb⟩
    exact ⟨false, wv, c, p, true, by rw [wE_isdown]; rfl, (DkW.of_below h hb).more (by omega) (by omega), hc, by omega, hp⟩
  | false =>
    by_cases h0 : p = 0
    · subst h0
      obtain ⟨b, rfl, _⟩ := hv
      rw [tx_len]
      refine (writeD_down h s (some ⟨b, 0, none⟩) 512 hs).mono ?_
      rintro e w' ⟨wv', rfl, hd⟩
      exact ⟨false, wv', c, 0, true, rfl, hd.more (by omega) (by omega), hc, by omega, hp⟩
    · refine (writeD_ok h s y v hs hv hP hy hc hc2 (by unfold PP at hp; omega) (by unfold PP at hp; omega) hK).mono ?_
      rintro e w' ⟨wv', rfl, hd⟩
      exact ⟨true, wv', c + 1, pl p, false, rfl, hd, by omega, by omega, hp.pl h0⟩
theorem flushAny (h : DK P w g N sb hb wv su ws rg c p d K) (hc : 0 ≤ c) (hc2 : c ≤ 1000000) (hp : PP p) :
    Calls Try.prog 28 #[.pointer (some ⟨g, 0, none⟩)] w (AnyP P w g N sb hb wv su (allS su ws) ws [] rg rg c K) := by
  cases d with
  | true =>
    refine (flushD_isdown h).mono ?_
    rintro e w' ⟨rfl, rfl⟩
    exact ⟨false, wv, c, p, true, rfl, ⟨h, Mods.refl _ _, anew_same _ _⟩, hc, by omega, hp⟩
  | false =>
    by_cases h0 : p = 0
    · subst h0
      refine (flushD_down h).mono ?_
      rintro e w' ⟨wv', rfl, hd⟩
      exact ⟨false, wv', c, 0, true, rfl, hd, hc, by omega, hp⟩
    · refine (flushD_ok h hc hc2 (by unfold PP at hp; omega) (by unfold PP at hp; omega)).mono ?_
      rintro e w' ⟨wv', rfl, hd⟩
      exact ⟨true, wv', c + 1, pl p, false, rfl, hd, by omega, by omega, hp.pl h0⟩
theorem setregAny (h : DK P w g N sb hb wv su ws rg c p d K) (hc : 0 ≤ c) (hc2 : c ≤ 1000000) (hp : PP p) (rg' : List Value) (hl' : rg'.length = 64) (h1' : ∀ v ∈ rg', v.oneCell' = true) :
    Calls Try.prog 29 #[.pointer (some ⟨g, 0, none⟩), .agg rg'.toArray] w (AnyP P w g N sb hb wv su su ws ws rg rg' c K) := by
  cases d with
  | true =>
    refine (setregD_isdown h _).mono ?_
    rintro e w' ⟨rfl, hb⟩
    exact ⟨false, wv, c, p, true, rfl, DkW.of_below h hb, hc, by omega, hp⟩
  | false =>
    by_cases h0 : p = 0
    · subst h0
      refine (setregD_down h _).mono ?_
      rintro e w' ⟨wv', rfl, hd⟩
      exact ⟨false, wv', c, 0, true, rfl, hd, hc, by omega, hp⟩
    · refine (setregD_ok h hc hc2 (by unfold PP at hp; omega) (by unfold PP at hp; omega) rg' hl' h1').mono ?_
      rintro e w' ⟨rfl, hd, hm⟩
      exact ⟨true, wv, c + 1, pl p, false, rfl, ⟨hd, hm.mono (fun b hb' => .inl (.inl hb')), anew_same _ _⟩, by omega, by omega, hp.pl h0⟩
end
end Go.Proofs.Ytklhnibmpdaioaa.pv
