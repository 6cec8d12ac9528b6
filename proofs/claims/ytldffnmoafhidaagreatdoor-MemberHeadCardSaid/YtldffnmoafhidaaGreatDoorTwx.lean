/- Texts of one kind, in one file: Two, TwoB. -/
import Derived.Test.YtldffnmoafhidaaGreatDoorArb
import Derived.Deep.RegionHeld3
/- A region that draws its order, in which two calls are boxed: two loads, two calls, two allocations, two stores, in whatever order they come. Over any program. -/
set_option linter.unusedVariables false
set_option maxRecDepth 100000
namespace Go.Proofs.YtldffnmoafhidaaGreatDoor
open Go.RowKit
theorem wpAnyH_inv {P : Program} {md : Region.Mode} {ops : Array Oper} {Q : Exit → Act → World → Prop} {S : World → Prop} (I : Nat → Array Bool → Act → World → Prop)
    (h0 : ∀ L a w, I 0 L a w → Region.ready md ops L = [] ∧ Q .normal a w)
    (h1 : ∀ n L a w, I (n + 1) L a w → (Region.ready md ops L = [] → Q .normal a w) ∧ ∀ i ∈ Region.ready md ops L, wpOp P ops Q i (fun a' w' => S w' ∧ I n (L.setIfInBounds i true) a' w') a w) :
    ∀ n L a w, I n L a w → wpAnyH P md ops Q S n L a w := by
  intro n
  induction n with
  | zero => exact h0
  | succ n ih =>
    intro L a w h
    obtain ⟨h2, h3⟩ := h1 n L a w h
    exact ⟨h2, fun i hi => wpOp_mono (fun a' w' hw => ⟨hw.1, ih _ _ _ hw.2⟩) (h3 i hi)⟩
def legal8 (l1 c1 l2 c2 a1 a2 s1 s2 : Bool) : Bool := (!c1 || l1) && (!c2 || l2) && (!s1 || (c1 && a1)) && (!s2 || (c2 && a2))
def okAt (ops : Array Oper) (l1 c1 l2 c2 a1 a2 s1 s2 : Bool) : Bool :=
  !legal8 l1 c1 l2 c2 a1 a2 s1 s2 || (((Region.ready .any ops #[l1, c1, l2, c2, a1, a2, s1, s2]).all fun i => (i == 0 && !l1) || (i == 1 && !c1 && l1) || (i == 2 && !l2) || (i == 3 && !c2 && l2) || (i == 4 && !a1) || (i == 5 && !a2) || (i == 6 && !s1 && c1 && a1) || (i == 7 && !s2 && c2 && a2)) && ((Region.ready .any ops #[l1, c1, l2, c2, a1, a2, s1, s2]).isEmpty == (l1 && c1 && l2 && c2 && a1 && a2 && s1 && s2)))
def both : List Bool := [false, true]
theorem mem_both (b : Bool) : b ∈ both := by cases b <;> decide
def ready8 (ops : Array Oper) : Bool := both.all fun l1 => both.all fun c1 => both.all fun l2 => both.all fun c2 => both.all fun a1 => both.all fun a2 => both.all fun s1 => both.all fun s2 => okAt ops l1 c1 l2 c2 a1 a2 s1 s2
theorem ready8_at {ops : Array Oper} (h : ready8 ops = true) (l1 c1 l2 c2 a1 a2 s1 s2 : Bool) : okAt ops l1 c1 l2 c2 a1 a2 s1 s2 = true := by
  unfold ready8 at h
  exact List.all_eq_true.1 (List.all_eq_true.1 (List.all_eq_true.1 (List.all_eq_true.1 (List.all_eq_true.1 (List.all_eq_true.1 (List.all_eq_true.1 (List.all_eq_true.1 h l1 (mem_both _)) c1 (mem_both _)) l2 (mem_both _)) c2 (mem_both _)) a1 (mem_both _)) a2 (mem_both _)) s1 (mem_both _)) s2 (mem_both _)
theorem ok_ready {ops : Array Oper} {l1 c1 l2 c2 a1 a2 s1 s2 : Bool} (h : okAt ops l1 c1 l2 c2 a1 a2 s1 s2 = true) (hl : legal8 l1 c1 l2 c2 a1 a2 s1 s2 = true) :
    (∀ i ∈ Region.ready .any ops #[l1, c1, l2, c2, a1, a2, s1, s2], (i = 0 ∧ l1 = false) ∨ (i = 1 ∧ c1 = false ∧ l1 = true) ∨ (i = 2 ∧ l2 = false) ∨ (i = 3 ∧ c2 = false ∧ l2 = true) ∨ (i = 4 ∧ a1 = false) ∨ (i = 5 ∧ a2 = false) ∨ (i = 6 ∧ s1 = false ∧ c1 = true ∧ a1 = true) ∨ (i = 7 ∧ s2 = false ∧ c2 = true ∧ a2 = true)) ∧
    ((Region.ready .any ops #[l1, c1, l2, c2, a1, a2, s1, s2] = []) ↔ (l1 && c1 && l2 && c2 && a1 && a2 && s1 && s2) = true) := by
  unfold okAt at h
  rw [hl] at h
  simp only [Bool.not_true, Bool.false_or, Bool.and_eq_true, List.all_eq_true] at h
  obtain ⟨g1, g2⟩ := h
  refine ⟨fun i hi => ?_, ?_⟩
  · have := g1 i hi
    simp only [Bool.or_eq_true, Bool.and_eq_true, beq_iff_eq, Bool.not_eq_true'] at this
    rcases this with ((((((⟨e, f⟩ | ⟨⟨e, f⟩, k⟩) | ⟨e, f⟩) | ⟨⟨e, f⟩, k⟩) | ⟨e, f⟩) | ⟨e, f⟩) | ⟨⟨⟨e, f⟩, k⟩, m⟩) | ⟨⟨⟨e, f⟩, k⟩, m⟩
    · exact .inl ⟨e, f⟩
    · exact .inr (.inl ⟨e, f, k⟩)
    · exact .inr (.inr (.inl ⟨e, f⟩))
    · exact .inr (.inr (.inr (.inl ⟨e, f, k⟩)))
    · exact .inr (.inr (.inr (.inr (.inl ⟨e, f⟩))))
    · exact .inr (.inr (.inr (.inr (.inr (.inl ⟨e, f⟩)))))
    · exact .inr (.inr (.inr (.inr (.inr (.inr (.inl ⟨e, f, k, m⟩))))))
    · exact .inr (.inr (.inr (.inr (.inr (.inr (.inr ⟨e, f, k, m⟩))))))
  · rw [← List.isEmpty_iff]
    have g3 := beq_iff_eq.1 g2
    rw [g3]
/-- where one of the two strands stands -/
def StrT (l c a s : Bool) (raw vl vc va : Value) (V : Value → Prop) (Z : World → Nat → Prop) (E : World → Nat → Value → Prop) (w : World) (g : Nat) : Prop :=
  (l = true → vl = raw) ∧ (c = true → V vc) ∧ (a = true → va = .pointer (some ⟨g, 0, none⟩)) ∧ (a = true → s = false → Z w g) ∧ (s = true → E w g vc)
theorem StrT.move {l c a s : Bool} {raw vl vc va : Value} {V : Value → Prop} {Z : World → Nat → Prop} {E : World → Nat → Value → Prop} {w w' : World} {g : Nat} (h : StrT l c a s raw vl vc va V Z E w g)
    (hZ : a = true → Z w g → Z w' g) (hE : a = true → ∀ v, E w g v → E w' g v) (ha : s = true → a = true) : StrT l c a s raw vl vc va V Z E w' g :=
  ⟨h.1, h.2.1, h.2.2.1, fun h1 h2 => hZ h1 (h.2.2.2.1 h1 h2), fun h1 => hE (ha h1) _ (h.2.2.2.2 h1)⟩
def nf (b : Bool) : Nat := if b = true then 0 else 1
section
variable {P : Program} {ops : Array Oper} {Q : Exit → Act → World → Prop} (F : Value → Value → Value → Value → Value → Value → Act) (R : World → Prop) (raw1 raw2 : Value) (V1 V2 : Value → Prop) (Z : World → Nat → Prop) (E : World → Nat → Value → Prop)
/-- what holds after some of the operations -/
def InvT (n : Nat) (L : Array Bool) (a : Act) (w : World) : Prop :=
  ∃ (l1 c1 l2 c2 a1 a2 s1 s2 : Bool) (vl1 vc1 vl2 vc2 va1 va2 : Value) (g h : Nat), L = #[l1, c1, l2, c2, a1, a2, s1, s2] ∧ legal8 l1 c1 l2 c2 a1 a2 s1 s2 = true ∧ n = nf l1 + nf c1 + nf l2 + nf c2 + nf a1 + nf a2 + nf s1 + nf s2 ∧ a = F vl1 vc1 vl2 vc2 va1 va2 ∧
    StrT l1 c1 a1 s1 raw1 vl1 vc1 va1 V1 Z E w g ∧ StrT l2 c2 a2 s2 raw2 vl2 vc2 va2 V2 Z E w h ∧ (a1 = true → a2 = true → g ≠ h) ∧ R w
theorem region_two {id : Nat} {w : World} {u1 u2 u3 u4 u5 u6 : Value} (hm : P.follows .mixedOrders = true) (hsz : ops.size = 8) (hr : ready8 ops = true) (hR : R w.drew)
    (k0 : ∀ (K : Act → World → Prop) vl1 vc1 vl2 vc2 va1 va2 w, R w → K (F raw1 vc1 vl2 vc2 va1 va2) w → wpOp P ops Q 0 K (F vl1 vc1 vl2 vc2 va1 va2) w)
    (k2 : ∀ (K : Act → World → Prop) vl1 vc1 vl2 vc2 va1 va2 w, R w → K (F vl1 vc1 raw2 vc2 va1 va2) w → wpOp P ops Q 2 K (F vl1 vc1 vl2 vc2 va1 va2) w)
    (k1 : ∀ (K : Act → World → Prop) vc1 vl2 vc2 va1 va2 w, R w → (∀ v w', V1 v → R w' → (∀ g, Z w g → Z w' g) → (∀ g u, E w g u → E w' g u) → K (F raw1 v vl2 vc2 va1 va2) w') → wpOp P ops Q 1 K (F raw1 vc1 vl2 vc2 va1 va2) w)
    (k3 : ∀ (K : Act → World → Prop) vl1 vc1 vc2 va1 va2 w, R w → (∀ v w', V2 v → R w' → (∀ g, Z w g → Z w' g) → (∀ g u, E w g u → E w' g u) → K (F vl1 vc1 raw2 v va1 va2) w') → wpOp P ops Q 3 K (F vl1 vc1 raw2 vc2 va1 va2) w)
    (k4 : ∀ (K : Act → World → Prop) vl1 vc1 vl2 vc2 va1 va2 w, R w → (∀ g w', R w' → Z w' g → (∀ h, Z w h → Z w' h ∧ h ≠ g) → (∀ h u, E w h u → E w' h u ∧ h ≠ g) → K (F vl1 vc1 vl2 vc2 (.pointer (some ⟨g, 0, none⟩)) va2) w') → wpOp P ops Q 4 K (F vl1 vc1 vl2 vc2 va1 va2) w)
    (k5 : ∀ (K : Act → World → Prop) vl1 vc1 vl2 vc2 va1 va2 w, R w → (∀ g w', R w' → Z w' g → (∀ h, Z w h → Z w' h ∧ h ≠ g) → (∀ h u, E w h u → E w' h u ∧ h ≠ g) → K (F vl1 vc1 vl2 vc2 va1 (.pointer (some ⟨g, 0, none⟩))) w') → wpOp P ops Q 5 K (F vl1 vc1 vl2 vc2 va1 va2) w)
    (k6 : ∀ (K : Act → World → Prop) vl1 v vl2 vc2 va2 g w, R w → Z w g → V1 v → (∀ w', R w' → E w' g v → (∀ h, h ≠ g → Z w h → Z w' h) → (∀ h u, h ≠ g → E w h u → E w' h u) → K (F vl1 v vl2 vc2 (.pointer (some ⟨g, 0, none⟩)) va2) w') → wpOp P ops Q 6 K (F vl1 v vl2 vc2 (.pointer (some ⟨g, 0, none⟩)) va2) w)
    (k7 : ∀ (K : Act → World → Prop) vl1 vc1 vl2 v va1 g w, R w → Z w g → V2 v → (∀ w', R w' → E w' g v → (∀ h, h ≠ g → Z w h → Z w' h) → (∀ h u, h ≠ g → E w h u → E w' h u) → K (F vl1 vc1 vl2 v va1 (.pointer (some ⟨g, 0, none⟩))) w') → wpOp P ops Q 7 K (F vl1 vc1 vl2 v va1 (.pointer (some ⟨g, 0, none⟩))) w)
    (hfin : ∀ v1 v2 g h w', V1 v1 → V2 v2 → g ≠ h → E w' g v1 → E w' h v2 → R w' → Q .normal (F raw1 v1 raw2 v2 (.pointer (some ⟨g, 0, none⟩)) (.pointer (some ⟨h, 0, none⟩))) w') :
    (Code.region id ops true).wp P Q (F u1 u2 u3 u4 u5 u6) w := by
  refine wp_region_held_drew (S := fun _ => True) hm trivial fun _ => ?_
  rw [hsz]
  refine wpAnyH_inv (InvT F R raw1 raw2 V1 V2 Z E) ?_ ?_ 8 _ _ _ ?_
  · rintro L a w' ⟨l1, c1, l2, c2, a1, a2, s1, s2, vl1, vc1, vl2, vc2, va1, va2, g, h, rfl, hl, hn, rfl, h1, h2, hne, hRw⟩
    have hall : l1 = true ∧ c1 = true ∧ l2 = true ∧ c2 = true ∧ a1 = true ∧ a2 = true ∧ s1 = true ∧ s2 = true := by
      revert hn; cases l1 <;> cases c1 <;> cases l2 <;> cases c2 <;> cases a1 <;> cases a2 <;> cases s1 <;> cases s2 <;> decide
    obtain ⟨rfl, rfl, rfl, rfl, rfl, rfl, rfl, rfl⟩ := hall
    refine ⟨(ok_ready (ready8_at hr _ _ _ _ _ _ _ _) hl).2.2 rfl, ?_⟩
    obtain ⟨rfl, g2, rfl, -, g5⟩ : _ ∧ _ ∧ _ ∧ True ∧ _ := ⟨h1.1 rfl, h1.2.1 rfl, h1.2.2.1 rfl, trivial, h1.2.2.2.2 rfl⟩
    obtain ⟨rfl, f2, rfl, -, f5⟩ : _ ∧ _ ∧ _ ∧ True ∧ _ := ⟨h2.1 rfl, h2.2.1 rfl, h2.2.2.1 rfl, trivial, h2.2.2.2.2 rfl⟩
    exact hfin _ _ _ _ _ g2 f2 (hne rfl rfl) g5 f5 hRw
  · rintro n L a w' ⟨l1, c1, l2, c2, a1, a2, s1, s2, vl1, vc1, vl2, vc2, va1, va2, g, h, rfl, hl, hn, rfl, h1, h2, hne, hRw⟩
    obtain ⟨r1, r2⟩ := ok_ready (ready8_at hr l1 c1 l2 c2 a1 a2 s1 s2) hl
    have hs1 : s1 = true → a1 = true := fun e => by subst e; revert hl; cases l1 <;> cases c1 <;> cases l2 <;> cases c2 <;> cases a1 <;> cases a2 <;> cases s2 <;> decide
    have hs2 : s2 = true → a2 = true := fun e => by subst e; revert hl; cases l1 <;> cases c1 <;> cases l2 <;> cases c2 <;> cases a1 <;> cases a2 <;> cases s1 <;> decide
    refine ⟨fun e => ?_, fun i hi => ?_⟩
    · exfalso
      have e2 := r2.1 e
      revert hn e2
      cases l1 <;> cases c1 <;> cases l2 <;> cases c2 <;> cases a1 <;> cases a2 <;> cases s1 <;> cases s2 <;> simp [nf]
    · rcases r1 i hi with ⟨rfl, rfl⟩ | ⟨rfl, rfl, rfl⟩ | ⟨rfl, rfl⟩ | ⟨rfl, rfl, rfl⟩ | ⟨rfl, rfl⟩ | ⟨rfl, rfl⟩ | ⟨rfl, rfl, rfl, rfl⟩ | ⟨rfl, rfl, rfl, rfl⟩
      · -- the first load
        refine k0 _ _ _ _ _ _ _ _ hRw ⟨trivial, true, c1, l2, c2, a1, a2, s1, s2, _, _, _, _, _, _, g, h, rfl, ?_, ?_, rfl, ⟨fun _ => rfl, h1.2⟩, h2, hne, hRw⟩
        · revert hl; cases c1 <;> cases l2 <;> cases c2 <;> cases a1 <;> cases a2 <;> cases s1 <;> cases s2 <;> decide
        · simp only [nf] at hn ⊢; simp at hn ⊢; omega
      · -- the first call
        obtain rfl := h1.1 rfl
        refine k1 _ _ _ _ _ _ _ hRw fun v w2 hv hR2 hZ hE => ⟨trivial, true, true, l2, c2, a1, a2, s1, s2, _, _, _, _, _, _, g, h, rfl, ?_, ?_, rfl, ⟨fun _ => rfl, fun _ => hv, h1.2.2.1, fun e1 e2 => hZ _ (h1.2.2.2.1 e1 e2), fun e => ?_⟩, h2.move (fun _ => hZ _) (fun _ => hE _) hs2, hne, hR2⟩
        · revert hl; cases l2 <;> cases c2 <;> cases a1 <;> cases a2 <;> cases s1 <;> cases s2 <;> decide
        · simp only [nf] at hn ⊢; simp at hn ⊢; omega
        · exfalso; subst e; revert hl; cases l2 <;> cases c2 <;> cases a1 <;> cases a2 <;> cases s2 <;> decide
      · -- the second load
        refine k2 _ _ _ _ _ _ _ _ hRw ⟨trivial, l1, c1, true, c2, a1, a2, s1, s2, _, _, _, _, _, _, g, h, rfl, ?_, ?_, rfl, h1, ⟨fun _ => rfl, h2.2⟩, hne, hRw⟩
        · revert hl; cases l1 <;> cases c1 <;> cases c2 <;> cases a1 <;> cases a2 <;> cases s1 <;> cases s2 <;> decide
        · simp only [nf] at hn ⊢; simp at hn ⊢; omega
      · -- the second call
        obtain rfl := h2.1 rfl
        refine k3 _ _ _ _ _ _ _ hRw fun v w2 hv hR2 hZ hE => ⟨trivial, l1, c1, true, true, a1, a2, s1, s2, _, _, _, _, _, _, g, h, rfl, ?_, ?_, rfl, h1.move (fun _ => hZ _) (fun _ => hE _) hs1, ⟨fun _ => rfl, fun _ => hv, h2.2.2.1, fun e1 e2 => hZ _ (h2.2.2.2.1 e1 e2), fun e => ?_⟩, hne, hR2⟩
        · revert hl; cases l1 <;> cases c1 <;> cases a1 <;> cases a2 <;> cases s1 <;> cases s2 <;> decide
        · simp only [nf] at hn ⊢; simp at hn ⊢; omega
        · exfalso; subst e; revert hl; cases l1 <;> cases c1 <;> cases a1 <;> cases a2 <;> cases s1 <;> decide
      · -- the first box
        have hs0 : s1 = false := by revert hs1; cases s1 <;> simp
        subst hs0
        refine k4 _ _ _ _ _ _ _ _ hRw fun g' w2 hR2 hZg hZ hE => ⟨trivial, l1, c1, l2, c2, true, a2, false, s2, _, _, _, _, _, _, g', h, rfl, ?_, ?_, rfl, ⟨h1.1, h1.2.1, fun _ => rfl, fun _ _ => hZg, fun e => (by cases e)⟩, h2.move (fun _ q => (hZ _ q).1) (fun _ u q => (hE _ u q).1) hs2, fun _ e => ?_, hR2⟩
        · revert hl; cases l1 <;> cases c1 <;> cases l2 <;> cases c2 <;> cases a2 <;> cases s2 <;> decide
        · simp only [nf] at hn ⊢; simp at hn ⊢; omega
        · cases s2 with
          | false => exact (hZ _ (h2.2.2.2.1 e rfl)).2.symm
          | true => exact (hE _ _ (h2.2.2.2.2 rfl)).2.symm
      · -- the second box
        have hs0 : s2 = false := by revert hs2; cases s2 <;> simp
        subst hs0
        refine k5 _ _ _ _ _ _ _ _ hRw fun g' w2 hR2 hZg hZ hE => ⟨trivial, l1, c1, l2, c2, a1, true, s1, false, _, _, _, _, _, _, g, g', rfl, ?_, ?_, rfl, h1.move (fun _ q => (hZ _ q).1) (fun _ u q => (hE _ u q).1) hs1, ⟨h2.1, h2.2.1, fun _ => rfl, fun _ _ => hZg, fun e => (by cases e)⟩, fun e _ => ?_, hR2⟩
        · revert hl; cases l1 <;> cases c1 <;> cases l2 <;> cases c2 <;> cases a1 <;> cases s1 <;> decide
        · simp only [nf] at hn ⊢; simp at hn ⊢; omega
        · cases s1 with
          | false => exact (hZ _ (h1.2.2.2.1 e rfl)).2
          | true => exact (hE _ _ (h1.2.2.2.2 rfl)).2
      · -- the first store
        obtain rfl := h1.2.2.1 rfl
        refine k6 _ _ _ _ _ _ _ _ hRw (h1.2.2.2.1 rfl rfl) (h1.2.1 rfl) fun w2 hR2 hEg hZ hE => ⟨trivial, l1, true, l2, c2, true, a2, true, s2, _, _, _, _, _, _, g, h, rfl, ?_, ?_, rfl, ⟨h1.1, h1.2.1, fun _ => rfl, fun _ e => (by cases e), fun _ => hEg⟩, h2.move (fun e q => hZ _ (fun e2 => hne rfl e e2.symm) q) (fun e u q => hE _ u (fun e2 => hne rfl e e2.symm) q) hs2, hne, hR2⟩
        · revert hl; cases l1 <;> cases l2 <;> cases c2 <;> cases a2 <;> cases s2 <;> decide
        · simp only [nf] at hn ⊢; simp at hn ⊢; omega
      · -- the second store
        obtain rfl := h2.2.2.1 rfl
        refine k7 _ _ _ _ _ _ _ _ hRw (h2.2.2.2.1 rfl rfl) (h2.2.1 rfl) fun w2 hR2 hEg hZ hE => ⟨trivial, l1, c1, l2, true, a1, true, s1, true, _, _, _, _, _, _, g, h, rfl, ?_, ?_, rfl, h1.move (fun e q => hZ _ (fun e2 => hne e rfl e2) q) (fun e u q => hE _ u (fun e2 => hne e rfl e2) q) hs1, ⟨h2.1, h2.2.1, fun _ => rfl, fun _ e => (by cases e), fun _ => hEg⟩, hne, hR2⟩
        · revert hl; cases l1 <;> cases c1 <;> cases l2 <;> cases a1 <;> cases s1 <;> decide
        · simp only [nf] at hn ⊢; simp at hn ⊢; omega
  · exact ⟨false, false, false, false, false, false, false, false, u1, u2, u3, u4, u5, u6, 0, 0, rfl, rfl, rfl, rfl, ⟨fun e => (by cases e), fun e => (by cases e), fun e => (by cases e), fun e => (by cases e), fun e => (by cases e)⟩, ⟨fun e => (by cases e), fun e => (by cases e), fun e => (by cases e), fun e => (by cases e), fun e => (by cases e)⟩, fun e => (by cases e), hR⟩
end
end Go.Proofs.YtldffnmoafhidaaGreatDoor
/- A region that draws its order, in which two values are boxed: two loads, two allocations, two stores, in whatever order they come. Over any program. -/
set_option linter.unusedVariables false
set_option maxRecDepth 100000
namespace Go.Proofs.YtldffnmoafhidaaGreatDoor
open Go.RowKit
def legal6 (l1 l2 a1 a2 s1 s2 : Bool) : Bool := (!s1 || (l1 && a1)) && (!s2 || (l2 && a2))
def okAt6 (ops : Array Oper) (l1 l2 a1 a2 s1 s2 : Bool) : Bool :=
  !legal6 l1 l2 a1 a2 s1 s2 || (((Region.ready .any ops #[l1, l2, a1, a2, s1, s2]).all fun i => (i == 0 && !l1) || (i == 1 && !l2) || (i == 2 && !a1) || (i == 3 && !a2) || (i == 4 && !s1 && l1 && a1) || (i == 5 && !s2 && l2 && a2)) && ((Region.ready .any ops #[l1, l2, a1, a2, s1, s2]).isEmpty == (l1 && l2 && a1 && a2 && s1 && s2)))
def ready6 (ops : Array Oper) : Bool := both.all fun l1 => both.all fun l2 => both.all fun a1 => both.all fun a2 => both.all fun s1 => both.all fun s2 => okAt6 ops l1 l2 a1 a2 s1 s2
theorem ready6_at {ops : Array Oper} (h : ready6 ops = true) (l1 l2 a1 a2 s1 s2 : Bool) : okAt6 ops l1 l2 a1 a2 s1 s2 = true := by
  unfold ready6 at h
  exact List.all_eq_true.1 (List.all_eq_true.1 (List.all_eq_true.1 (List.all_eq_true.1 (List.all_eq_true.1 (List.all_eq_true.1 h l1 (mem_both _)) l2 (mem_both _)) a1 (mem_both _)) a2 (mem_both _)) s1 (mem_both _)) s2 (mem_both _)
theorem ok_ready6 {ops : Array Oper} {l1 l2 a1 a2 s1 s2 : Bool} (h : okAt6 ops l1 l2 a1 a2 s1 s2 = true) (hl : legal6 l1 l2 a1 a2 s1 s2 = true) :
    (∀ i ∈ Region.ready .any ops #[l1, l2, a1, a2, s1, s2], (i = 0 ∧ l1 = false) ∨ (i = 1 ∧ l2 = false) ∨ (i = 2 ∧ a1 = false) ∨ (i = 3 ∧ a2 = false) ∨ (i = 4 ∧ s1 = false ∧ l1 = true ∧ a1 = true) ∨ (i = 5 ∧ s2 = false ∧ l2 = true ∧ a2 = true)) ∧
    ((Region.ready .any ops #[l1, l2, a1, a2, s1, s2] = []) ↔ (l1 && l2 && a1 && a2 && s1 && s2) = true) := by
  unfold okAt6 at h
  rw [hl] at h
  simp only [Bool.not_true, Bool.false_or, Bool.and_eq_true, List.all_eq_true] at h
  obtain ⟨g1, g2⟩ := h
  refine ⟨fun i hi => ?_, ?_⟩
  · have := g1 i hi
    simp only [Bool.or_eq_true, Bool.and_eq_true, beq_iff_eq, Bool.not_eq_true'] at this
    rcases this with ((((⟨e, f⟩ | ⟨e, f⟩) | ⟨e, f⟩) | ⟨e, f⟩) | ⟨⟨⟨e, f⟩, k⟩, m⟩) | ⟨⟨⟨e, f⟩, k⟩, m⟩
    · exact .inl ⟨e, f⟩
    · exact .inr (.inl ⟨e, f⟩)
    · exact .inr (.inr (.inl ⟨e, f⟩))
    · exact .inr (.inr (.inr (.inl ⟨e, f⟩)))
    · exact .inr (.inr (.inr (.inr (.inl ⟨e, f, k, m⟩))))
    · exact .inr (.inr (.inr (.inr (.inr ⟨e, f, k, m⟩))))
  · rw [← List.isEmpty_iff]
    have g3 := beq_iff_eq.1 g2
    rw [g3]
def StrB (l a s : Bool) (raw vl va : Value) (Z : World → Nat → Prop) (E : World → Nat → Value → Prop) (w : World) (g : Nat) : Prop :=
  (l = true → vl = raw) ∧ (a = true → va = .pointer (some ⟨g, 0, none⟩)) ∧ (a = true → s = false → Z w g) ∧ (s = true → E w g raw)
theorem StrB.move {l a s : Bool} {raw vl va : Value} {Z : World → Nat → Prop} {E : World → Nat → Value → Prop} {w w' : World} {g : Nat} (h : StrB l a s raw vl va Z E w g)
    (hZ : a = true → Z w g → Z w' g) (hE : a = true → ∀ v, E w g v → E w' g v) (ha : s = true → a = true) : StrB l a s raw vl va Z E w' g :=
  ⟨h.1, h.2.1, fun h1 h2 => hZ h1 (h.2.2.1 h1 h2), fun h1 => hE (ha h1) _ (h.2.2.2 h1)⟩
section
variable {P : Program} {ops : Array Oper} {Q : Exit → Act → World → Prop} (F : Value → Value → Value → Value → Act) (R : World → Prop) (raw1 raw2 : Value) (Z : World → Nat → Prop) (E : World → Nat → Value → Prop)
def InvB (n : Nat) (L : Array Bool) (a : Act) (w : World) : Prop :=
  ∃ (l1 l2 a1 a2 s1 s2 : Bool) (vl1 vl2 va1 va2 : Value) (g h : Nat), L = #[l1, l2, a1, a2, s1, s2] ∧ legal6 l1 l2 a1 a2 s1 s2 = true ∧ n = nf l1 + nf l2 + nf a1 + nf a2 + nf s1 + nf s2 ∧ a = F vl1 vl2 va1 va2 ∧
    StrB l1 a1 s1 raw1 vl1 va1 Z E w g ∧ StrB l2 a2 s2 raw2 vl2 va2 Z E w h ∧ (a1 = true → a2 = true → g ≠ h) ∧ R w
theorem region_box2 {id : Nat} {w : World} {u1 u2 u3 u4 : Value} (hm : P.follows .mixedOrders = true) (hsz : ops.size = 6) (hr : ready6 ops = true) (hR : R w.drew)
    (k0 : ∀ (K : Act → World → Prop) vl1 vl2 va1 va2 w, R w → K (F raw1 vl2 va1 va2) w → wpOp P ops Q 0 K (F vl1 vl2 va1 va2) w)
    (k1 : ∀ (K : Act → World → Prop) vl1 vl2 va1 va2 w, R w → K (F vl1 raw2 va1 va2) w → wpOp P ops Q 1 K (F vl1 vl2 va1 va2) w)
    (k2 : ∀ (K : Act → World → Prop) vl1 vl2 va1 va2 w, R w → (∀ g w', R w' → Z w' g → (∀ h, Z w h → Z w' h ∧ h ≠ g) → (∀ h u, E w h u → E w' h u ∧ h ≠ g) → K (F vl1 vl2 (.pointer (some ⟨g, 0, none⟩)) va2) w') → wpOp P ops Q 2 K (F vl1 vl2 va1 va2) w)
    (k3 : ∀ (K : Act → World → Prop) vl1 vl2 va1 va2 w, R w → (∀ g w', R w' → Z w' g → (∀ h, Z w h → Z w' h ∧ h ≠ g) → (∀ h u, E w h u → E w' h u ∧ h ≠ g) → K (F vl1 vl2 va1 (.pointer (some ⟨g, 0, none⟩))) w') → wpOp P ops Q 3 K (F vl1 vl2 va1 va2) w)
    (k4 : ∀ (K : Act → World → Prop) vl2 va2 g w, R w → Z w g → (∀ w', R w' → E w' g raw1 → (∀ h, h ≠ g → Z w h → Z w' h) → (∀ h u, h ≠ g → E w h u → E w' h u) → K (F raw1 vl2 (.pointer (some ⟨g, 0, none⟩)) va2) w') → wpOp P ops Q 4 K (F raw1 vl2 (.pointer (some ⟨g, 0, none⟩)) va2) w)
    (k5 : ∀ (K : Act → World → Prop) vl1 va1 g w, R w → Z w g → (∀ w', R w' → E w' g raw2 → (∀ h, h ≠ g → Z w h → Z w' h) → (∀ h u, h ≠ g → E w h u → E w' h u) → K (F vl1 raw2 va1 (.pointer (some ⟨g, 0, none⟩))) w') → wpOp P ops Q 5 K (F vl1 raw2 va1 (.pointer (some ⟨g, 0, none⟩))) w)
    (hfin : ∀ g h w', g ≠ h → E w' g raw1 → E w' h raw2 → R w' → Q .normal (F raw1 raw2 (.pointer (some ⟨g, 0, none⟩)) (.pointer (some ⟨h, 0, none⟩))) w') :
    (Code.region id ops true).wp P Q (F u1 u2 u3 u4) w := by
  refine wp_region_held_drew (S := fun _ => True) hm trivial fun _ => ?_
  rw [hsz]
  refine wpAnyH_inv (InvB F R raw1 raw2 Z E) ?_ ?_ 6 _ _ _ ?_
  · rintro L a w' ⟨l1, l2, a1, a2, s1, s2, vl1, vl2, va1, va2, g, h, rfl, hl, hn, rfl, h1, h2, hne, hRw⟩
    have hall : l1 = true ∧ l2 = true ∧ a1 = true ∧ a2 = true ∧ s1 = true ∧ s2 = true := by
      revert hn; cases l1 <;> cases l2 <;> cases a1 <;> cases a2 <;> cases s1 <;> cases s2 <;> decide
    obtain ⟨rfl, rfl, rfl, rfl, rfl, rfl⟩ := hall
    refine ⟨(ok_ready6 (ready6_at hr _ _ _ _ _ _) hl).2.2 rfl, ?_⟩
    obtain ⟨rfl, rfl, g5⟩ : _ ∧ _ ∧ _ := ⟨h1.1 rfl, h1.2.1 rfl, h1.2.2.2 rfl⟩
    obtain ⟨rfl, rfl, f5⟩ : _ ∧ _ ∧ _ := ⟨h2.1 rfl, h2.2.1 rfl, h2.2.2.2 rfl⟩
    exact hfin _ _ _ (hne rfl rfl) g5 f5 hRw
  · rintro n L a w' ⟨l1, l2, a1, a2, s1, s2, vl1, vl2, va1, va2, g, h, rfl, hl, hn, rfl, h1, h2, hne, hRw⟩
    obtain ⟨r1, r2⟩ := ok_ready6 (ready6_at hr l1 l2 a1 a2 s1 s2) hl
    have hs1 : s1 = true → a1 = true := fun e => by subst e; revert hl; cases l1 <;> cases l2 <;> cases a1 <;> cases a2 <;> cases s2 <;> decide
    have hs2 : s2 = true → a2 = true := fun e => by subst e; revert hl; cases l1 <;> cases l2 <;> cases a1 <;> cases a2 <;> cases s1 <;> decide
    refine ⟨fun e => ?_, fun i hi => ?_⟩
    · exfalso
      have e2 := r2.1 e
      revert hn e2
      cases l1 <;> cases l2 <;> cases a1 <;> cases a2 <;> cases s1 <;> cases s2 <;> simp [nf]
    · rcases r1 i hi with ⟨rfl, rfl⟩ | ⟨rfl, rfl⟩ | ⟨rfl, rfl⟩ | ⟨rfl, rfl⟩ | ⟨rfl, rfl, rfl, rfl⟩ | ⟨rfl, rfl, rfl, rfl⟩
      · refine k0 _ _ _ _ _ _ hRw ⟨trivial, true, l2, a1, a2, s1, s2, _, _, _, _, g, h, rfl, ?_, ?_, rfl, ⟨fun _ => rfl, h1.2⟩, h2, hne, hRw⟩
        · revert hl; cases l2 <;> cases a1 <;> cases a2 <;> cases s1 <;> cases s2 <;> decide
        · simp only [nf] at hn ⊢; simp at hn ⊢; omega
      · refine k1 _ _ _ _ _ _ hRw ⟨trivial, l1, true, a1, a2, s1, s2, _, _, _, _, g, h, rfl, ?_, ?_, rfl, h1, ⟨fun _ => rfl, h2.2⟩, hne, hRw⟩
        · revert hl; cases l1 <;> cases a1 <;> cases a2 <;> cases s1 <;> cases s2 <;> decide
        · simp only [nf] at hn ⊢; simp at hn ⊢; omega
      · have hs0 : s1 = false := by revert hs1; cases s1 <;> simp
        subst hs0
        refine k2 _ _ _ _ _ _ hRw fun g' w2 hR2 hZg hZ hE => ⟨trivial, l1, l2, true, a2, false, s2, _, _, _, _, g', h, rfl, ?_, ?_, rfl, ⟨h1.1, fun _ => rfl, fun _ _ => hZg, fun e => (by cases e)⟩, h2.move (fun _ q => (hZ _ q).1) (fun _ u q => (hE _ u q).1) hs2, fun _ e => ?_, hR2⟩
        · revert hl; cases l1 <;> cases l2 <;> cases a2 <;> cases s2 <;> decide
        · simp only [nf] at hn ⊢; simp at hn ⊢; omega
        · cases s2 with
          | false => exact (hZ _ (h2.2.2.1 e rfl)).2.symm
          | true => exact (hE _ _ (h2.2.2.2 rfl)).2.symm
      · have hs0 : s2 = false := by revert hs2; cases s2 <;> simp
        subst hs0
        refine k3 _ _ _ _ _ _ hRw fun g' w2 hR2 hZg hZ hE => ⟨trivial, l1, l2, a1, true, s1, false, _, _, _, _, g, g', rfl, ?_, ?_, rfl, h1.move (fun _ q => (hZ _ q).1) (fun _ u q => (hE _ u q).1) hs1, ⟨h2.1, fun _ => rfl, fun _ _ => hZg, fun e => (by cases e)⟩, fun e _ => ?_, hR2⟩
        · revert hl; cases l1 <;> cases l2 <;> cases a1 <;> cases s1 <;> decide
        · simp only [nf] at hn ⊢; simp at hn ⊢; omega
        · cases s1 with
          | false => exact (hZ _ (h1.2.2.1 e rfl)).2
          | true => exact (hE _ _ (h1.2.2.2 rfl)).2
      · obtain rfl := h1.2.1 rfl
        obtain rfl := h1.1 rfl
        refine k4 _ _ _ _ _ hRw (h1.2.2.1 rfl rfl) fun w2 hR2 hEg hZ hE => ⟨trivial, true, l2, true, a2, true, s2, _, _, _, _, g, h, rfl, ?_, ?_, rfl, ⟨h1.1, fun _ => rfl, fun _ e => (by cases e), fun _ => hEg⟩, h2.move (fun e q => hZ _ (fun e2 => hne rfl e e2.symm) q) (fun e u q => hE _ u (fun e2 => hne rfl e e2.symm) q) hs2, hne, hR2⟩
        · revert hl; cases l2 <;> cases a2 <;> cases s2 <;> decide
        · simp only [nf] at hn ⊢; simp at hn ⊢; omega
      · obtain rfl := h2.2.1 rfl
        obtain rfl := h2.1 rfl
        refine k5 _ _ _ _ _ hRw (h2.2.2.1 rfl rfl) fun w2 hR2 hEg hZ hE => ⟨trivial, l1, true, a1, true, s1, true, _, _, _, _, g, h, rfl, ?_, ?_, rfl, h1.move (fun e q => hZ _ (fun e2 => hne e rfl e2) q) (fun e u q => hE _ u (fun e2 => hne e rfl e2) q) hs1, ⟨h2.1, fun _ => rfl, fun _ e => (by cases e), fun _ => hEg⟩, hne, hR2⟩
        · revert hl; cases l1 <;> cases a1 <;> cases s1 <;> decide
        · simp only [nf] at hn ⊢; simp at hn ⊢; omega
  · exact ⟨false, false, false, false, false, false, u1, u2, u3, u4, 0, 0, rfl, rfl, rfl, rfl, ⟨fun e => (by cases e), fun e => (by cases e), fun e => (by cases e), fun e => (by cases e)⟩, ⟨fun e => (by cases e), fun e => (by cases e), fun e => (by cases e), fun e => (by cases e)⟩, fun e => (by cases e), hR⟩
end
end Go.Proofs.YtldffnmoafhidaaGreatDoor
