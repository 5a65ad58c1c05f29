/-
  Texts of bytes, as hmac's contracts have them and as those of the ciphers have them; marks and keys of keys in the ciphers' words. No condition.
-/
import Derived.Test.YtpkeofioobmmoaaDoorShR
import Derived.Test.YtpkeofioobmmoaaDoorAeXtsE
namespace Go.Proofs.YtpkeofioobmmoaaDoor
open Go.RowKit
theorem bcells_zl (l : List Nat) : sh.bcells (ae.zl l) = ae.ncells l := by
  simp [sh.bcells, ae.zl, ae.ncells, List.map_map, Function.comp_def]
/-- Numbers of 0 on. -/
def toN (xs : List Int) : List Nat := xs.map Int.toNat
theorem zl_toN {xs : List Int} (h : sh.Byt xs) : ae.zl (toN xs) = xs := by
  unfold ae.zl toN
  rw [List.map_map]
  conv => rhs; rw [← List.map_id xs]
  apply List.map_congr_left
  intro x hx
  have := h x hx
  simp only [Function.comp_def, id]
  omega
theorem toN_zl (l : List Nat) : toN (ae.zl l) = l := by
  unfold ae.zl toN
  rw [List.map_map]
  conv => rhs; rw [← List.map_id l]
  apply List.map_congr_left
  intro x _
  simp
theorem toN_bts {n : Nat} {xs : List Int} (h : sh.Byt xs) (hl : xs.length = n) : ae.Bts n (toN xs) := by
  refine ⟨by simp [toN, hl], fun x hx => ?_⟩
  unfold toN at hx
  obtain ⟨y, hy, rfl⟩ := List.mem_map.1 hx
  have := h y hy
  omega
theorem byt_zl {l : List Nat} (h : ae.Byt l) : sh.Byt (ae.zl l) := fun x hx => by
  unfold ae.zl at hx
  obtain ⟨y, hy, rfl⟩ := List.mem_map.1 hx
  have := h y hy
  omega
theorem nth_zl (l : List Nat) (i : Nat) : sh.nth (ae.zl l) i = (ae.at_ l i : Nat) := by
  unfold sh.nth ae.zl ae.at_
  simp only [List.getD, List.getElem?_map]
  cases l[i]? <;> simp
theorem sees_sh {w : World} {v : Value} {l : List Nat} (h : ae.Sees w v l) : sh.Sees w v (ae.zl l) := by
  obtain ⟨h1, ⟨rfl, rfl⟩ | ⟨a, cap, rfl, rfl, h2⟩ | ⟨b, o, cap, rfl, h3, h4, h5, h6⟩⟩ := h
  · exact ⟨byt_zl h1, .inl ⟨rfl, rfl⟩⟩
  · exact ⟨byt_zl h1, .inr (.inl ⟨a, cap, rfl, rfl, h2⟩)⟩
  · refine ⟨byt_zl h1, .inr (.inr ⟨b, o, cap, by rw [ae.zl_len], fun e => h3 ?_, by rw [ae.zl_len]; exact h4, h5, fun i hi => ?_⟩)⟩
    · have := congrArg List.length e
      rw [ae.zl_len] at this
      exact List.length_eq_zero_iff.1 this
    · rw [ae.zl_len] at hi
      rw [h6 i hi, nth_zl]
/-- A text's mark, in the ciphers' words. -/
def macN (k b : List Nat) : List Nat := toN (sh.mac (ae.zl k) (ae.zl b))
theorem macN_bts {k : List Nat} (b : List Nat) (hk : ae.Byt k) : ae.Bts 32 (macN k b) := toN_bts (sh.mac_byt _ _) (sh.mac_len _ _ (byt_zl hk))
theorem zl_macN (k b : List Nat) : ae.zl (macN k b) = sh.mac (ae.zl k) (ae.zl b) := zl_toN (sh.mac_byt _ _)
/-- The key of a name and a number. -/
def derN (key nm : List Nat) (num : Nat) : List Nat := toN (sh.strm (ae.zl key) (ae.zl nm ++ sh.be 8 num) 32)
theorem derN_bts {key : List Nat} (nm : List Nat) (num : Nat) (hk : ae.Byt key) : ae.Bts 32 (derN key nm num) := toN_bts (sh.strm_byt _ _ _) (sh.strm_len _ _ (byt_zl hk) 32 (by omega))
theorem zl_derN (key nm : List Nat) (num : Nat) : ae.zl (derN key nm num) = sh.strm (ae.zl key) (ae.zl nm ++ sh.be 8 num) 32 := zl_toN (sh.strm_byt _ _ _)
theorem extractC (vk vb : Value) (k b : List Nat) (w : World) (hk : ae.Sees w vk k) (hb : ae.Sees w vb b) (lk : k.length ≤ 562949953421312) (lb : b.length ≤ 562949953421312) (hG : sh.Glob w) :
    Calls Tryd.prog 41 #[vk, vb] w fun e w' => e = .returned (.agg (ae.ncells (macN k b))) ∧ Below w.heap.size w w' := by
  have h := sh.extract vk vb (ae.zl k) (ae.zl b) w (sees_sh hk) (sees_sh hb) (by rw [ae.zl_len]; exact lk) (by rw [ae.zl_len]; exact lb) hG
  rw [← zl_macN, bcells_zl] at h
  exact h
theorem deriveC (key nm : List Nat) (num : Nat) (hnum : num ≤ 18446744073709551615) (w : World) (hk : ae.Bts 32 key) (hv : ae.Byt nm) (ln : nm.length ≤ 900) (hG : sh.Glob w) (s : ByteArray) (hs : s = ae.strN nm) :
    Calls Tryd.prog 42 #[.agg (ae.ncells key), .string s, .int .u64 num] w fun e w' => e = .returned (.agg (ae.ncells (derN key nm num))) ∧ Below w.heap.size w w' := by
  have h := sh.derive (ae.zl key) (ae.zl nm) num (by omega) w (byt_zl hk.2) (by rw [ae.zl_len]; exact hk.1) (byt_zl hv) (by rw [ae.zl_len]; exact ln) hG
  rw [← zl_derN, bcells_zl, bcells_zl] at h
  rw [hs]
  exact h
end Go.Proofs.YtpkeofioobmmoaaDoor
