/- The places of three signs in their tables, and what they come to. -/
import Derived.Test.YtdcbmjihpjnbbaaDoorMth
import Derived.Laws.BitsLemmas
import Derived.KernelRfl
set_option linter.unusedVariables false
set_option maxRecDepth 100000
namespace Go.Proofs.YtdcbmjihpjnbbaaDoor
open Go.RowKit
/-- the value of three signs, with the places of their bits -/
def kOf (v s d : Nat) : Nat := v % 8 * s + v / 8 * d
def eOf (r p q A B C : Int) (D : Int) : Int := bits .or .i64 (bits .or .i64 (bits .or .i64 (wrap64 (wrap64 (q.tdiv 2) * A)) (wrap64 (r * B))) (wrap64 (p * C))) D
def thirdT (t : Bool) : List UInt8 := [45, 120, if t = true then 84 else 83, if t = true then 116 else 115]
theorem un3_no_of (x y z : UInt8) (t : Bool) (h : (x ≠ 45 ∧ x ≠ 114) ∨ (y ≠ 45 ∧ y ≠ 119) ∨ (z ≠ 45 ∧ z ≠ 120 ∧ z ≠ (if t = true then 84 else 83) ∧ z ≠ (if t = true then 116 else 115))) : un3 [x, y, z] t = none := by
  unfold un3
  rw [List.find?_eq_none]
  intro v _ hv
  have e : md3 (v % 8) (v / 8) t = [x, y, z] := by simpa using hv
  unfold md3 at e
  injection e with e1 e
  injection e with e2 e
  injection e with e3 _
  rcases h with h | h | h
  · split at e1 <;> simp_all
  · split at e2 <;> simp_all
  · obtain ⟨k1, k2, k3, k4⟩ := h
    have hz : z = 45 ∨ z = 120 ∨ z = (if t = true then 84 else 83) ∨ z = (if t = true then 116 else 115) := by
      rw [← e3]
      cases t <;> (repeat' split) <;> simp
    rcases hz with e | e | e | e
    · exact k1 e
    · exact k2 e
    · exact k3 e
    · exact k4 e
theorem index2 (c d b : UInt8) (hcd : c ≠ d) : ∃ r : Int, Lib.indexByte [c, d] b = r ∧ (r = -1 ∧ b ≠ c ∧ b ≠ d ∨ r = 0 ∧ b = c ∨ r = 1 ∧ b = d) := by
  refine ⟨_, rfl, ?_⟩
  by_cases h1 : b = c
  · subst h1; exact .inr (.inl ⟨by simp [Lib.indexByte], rfl⟩)
  · by_cases h2 : b = d
    · subst h2; exact .inr (.inr ⟨by simp [Lib.indexByte, hcd], rfl⟩)
    · exact .inl ⟨by simp [Lib.indexByte, Ne.symm h1, Ne.symm h2], h1, h2⟩
theorem index4 (c d e f b : UInt8) (h1 : c ≠ d) (h2 : c ≠ e) (h3 : c ≠ f) (h4 : d ≠ e) (h5 : d ≠ f) (h6 : e ≠ f) : ∃ r : Int, Lib.indexByte [c, d, e, f] b = r ∧ (r = -1 ∧ b ≠ c ∧ b ≠ d ∧ b ≠ e ∧ b ≠ f ∨ r = 0 ∧ b = c ∨ r = 1 ∧ b = d ∨ r = 2 ∧ b = e ∨ r = 3 ∧ b = f) := by
  refine ⟨_, rfl, ?_⟩
  by_cases g1 : b = c
  · subst g1; exact .inr (.inl ⟨by simp [Lib.indexByte], rfl⟩)
  · by_cases g2 : b = d
    · subst g2; exact .inr (.inr (.inl ⟨by simp [Lib.indexByte, h1], rfl⟩))
    · by_cases g3 : b = e
      · subst g3; exact .inr (.inr (.inr (.inl ⟨by simp [Lib.indexByte, h2, h4], rfl⟩)))
      · by_cases g4 : b = f
        · subst g4; exact .inr (.inr (.inr (.inr ⟨by simp [Lib.indexByte, h3, h5, h6], rfl⟩)))
        · exact .inl ⟨by simp [Lib.indexByte, Ne.symm g1, Ne.symm g2, Ne.symm g3, Ne.symm g4], g1, g2, g3, g4⟩
/-- what the places of three signs in their tables tell -/
theorem places (x y z : UInt8) (t : Bool) : ∃ r p q : Int, Lib.indexByte [45, 114] x = r ∧ Lib.indexByte [45, 119] y = p ∧ Lib.indexByte (thirdT t) z = q ∧
    (un3 [x, y, z] t = none ∧ (r < 0 ∨ ¬ r < 0 ∧ p < 0 ∨ ¬ r < 0 ∧ ¬ p < 0 ∧ q < 0) ∨
      (¬ r < 0 ∧ ¬ p < 0 ∧ ¬ q < 0) ∧ ∃ v : Nat, v < 16 ∧ un3 [x, y, z] t = some v ∧ eOf r p q 2048 256 128 (q % 2 * 64) = (kOf v 64 2048 : Nat) ∧ eOf r p q 1024 32 16 (q % 2 * 8) = (kOf v 8 1024 : Nat) ∧ eOf r p q 512 4 2 (q % 2) = (kOf v 1 512 : Nat)) := by
  obtain ⟨r, hr, dr⟩ := index2 45 114 x (by decide)
  obtain ⟨p, hp, dp⟩ := index2 45 119 y (by decide)
  obtain ⟨q, hq, dq⟩ := index4 45 120 (if t = true then 84 else 83) (if t = true then 116 else 115) z (by decide) (by cases t <;> decide) (by cases t <;> decide) (by cases t <;> decide) (by cases t <;> decide) (by cases t <;> decide)
  refine ⟨r, p, q, hr, hp, hq, ?_⟩
  clear hr hp hq
  rcases dr with ⟨rfl, n1⟩ | dr
  · exact .inl ⟨un3_no_of _ _ _ _ (.inl n1), .inl (by omega)⟩
  · rcases dp with ⟨rfl, n2⟩ | dp
    · exact .inl ⟨un3_no_of _ _ _ _ (.inr (.inl n2)), .inr (.inl ⟨by omega, by omega⟩)⟩
    · rcases dq with ⟨rfl, n3⟩ | dq
      · exact .inl ⟨un3_no_of _ _ _ _ (.inr (.inr n3)), .inr (.inr ⟨by omega, by omega, by omega⟩)⟩
      · refine .inr ⟨⟨by omega, by omega, by omega⟩, ?_⟩
        rcases dr with ⟨rfl, rfl⟩ | ⟨rfl, rfl⟩ <;> rcases dp with ⟨rfl, rfl⟩ | ⟨rfl, rfl⟩ <;> rcases dq with ⟨rfl, rfl⟩ | ⟨rfl, rfl⟩ | ⟨rfl, rfl⟩ | ⟨rfl, rfl⟩ <;> cases t
        · exact ⟨0, by decide, by decide +kernel, by kernel_rfl, by kernel_rfl, by kernel_rfl⟩
        · exact ⟨0, by decide, by decide +kernel, by kernel_rfl, by kernel_rfl, by kernel_rfl⟩
        · exact ⟨1, by decide, by decide +kernel, by kernel_rfl, by kernel_rfl, by kernel_rfl⟩
        · exact ⟨1, by decide, by decide +kernel, by kernel_rfl, by kernel_rfl, by kernel_rfl⟩
        · exact ⟨8, by decide, by decide +kernel, by kernel_rfl, by kernel_rfl, by kernel_rfl⟩
        · exact ⟨8, by decide, by decide +kernel, by kernel_rfl, by kernel_rfl, by kernel_rfl⟩
        · exact ⟨9, by decide, by decide +kernel, by kernel_rfl, by kernel_rfl, by kernel_rfl⟩
        · exact ⟨9, by decide, by decide +kernel, by kernel_rfl, by kernel_rfl, by kernel_rfl⟩
        · exact ⟨2, by decide, by decide +kernel, by kernel_rfl, by kernel_rfl, by kernel_rfl⟩
        · exact ⟨2, by decide, by decide +kernel, by kernel_rfl, by kernel_rfl, by kernel_rfl⟩
        · exact ⟨3, by decide, by decide +kernel, by kernel_rfl, by kernel_rfl, by kernel_rfl⟩
        · exact ⟨3, by decide, by decide +kernel, by kernel_rfl, by kernel_rfl, by kernel_rfl⟩
        · exact ⟨10, by decide, by decide +kernel, by kernel_rfl, by kernel_rfl, by kernel_rfl⟩
        · exact ⟨10, by decide, by decide +kernel, by kernel_rfl, by kernel_rfl, by kernel_rfl⟩
        · exact ⟨11, by decide, by decide +kernel, by kernel_rfl, by kernel_rfl, by kernel_rfl⟩
        · exact ⟨11, by decide, by decide +kernel, by kernel_rfl, by kernel_rfl, by kernel_rfl⟩
        · exact ⟨4, by decide, by decide +kernel, by kernel_rfl, by kernel_rfl, by kernel_rfl⟩
        · exact ⟨4, by decide, by decide +kernel, by kernel_rfl, by kernel_rfl, by kernel_rfl⟩
        · exact ⟨5, by decide, by decide +kernel, by kernel_rfl, by kernel_rfl, by kernel_rfl⟩
        · exact ⟨5, by decide, by decide +kernel, by kernel_rfl, by kernel_rfl, by kernel_rfl⟩
        · exact ⟨12, by decide, by decide +kernel, by kernel_rfl, by kernel_rfl, by kernel_rfl⟩
        · exact ⟨12, by decide, by decide +kernel, by kernel_rfl, by kernel_rfl, by kernel_rfl⟩
        · exact ⟨13, by decide, by decide +kernel, by kernel_rfl, by kernel_rfl, by kernel_rfl⟩
        · exact ⟨13, by decide, by decide +kernel, by kernel_rfl, by kernel_rfl, by kernel_rfl⟩
        · exact ⟨6, by decide, by decide +kernel, by kernel_rfl, by kernel_rfl, by kernel_rfl⟩
        · exact ⟨6, by decide, by decide +kernel, by kernel_rfl, by kernel_rfl, by kernel_rfl⟩
        · exact ⟨7, by decide, by decide +kernel, by kernel_rfl, by kernel_rfl, by kernel_rfl⟩
        · exact ⟨7, by decide, by decide +kernel, by kernel_rfl, by kernel_rfl, by kernel_rfl⟩
        · exact ⟨14, by decide, by decide +kernel, by kernel_rfl, by kernel_rfl, by kernel_rfl⟩
        · exact ⟨14, by decide, by decide +kernel, by kernel_rfl, by kernel_rfl, by kernel_rfl⟩
        · exact ⟨15, by decide, by decide +kernel, by kernel_rfl, by kernel_rfl, by kernel_rfl⟩
        · exact ⟨15, by decide, by decide +kernel, by kernel_rfl, by kernel_rfl, by kernel_rfl⟩
end Go.Proofs.YtdcbmjihpjnbbaaDoor
