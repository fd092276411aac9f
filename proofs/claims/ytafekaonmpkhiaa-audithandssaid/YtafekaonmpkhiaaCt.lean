/- Boxes: what is ranged over. -/
import Derived.Test.YtafekaonmpkhiaaCs
import Derived.Test.YtafekaonmpkhiaaCp
set_option linter.unusedSimpArgs false
set_option linter.unusedVariables false
set_option maxRecDepth 100000
namespace Go.Proofs.Ytafekaonmpkhiaa
open Go.Shelf Go.Sort Go.Lib Go.RowKit Go.Deep Go.PlainAid

theorem values37 (a : Option Addr) (n c : Nat) (w : World) : Calls Try.prog 37 #[.slice a n c] w fun e w' => e = .returned (.func (.func 42) #[] #[.pointer (some ⟨w.heap.size, 0, none⟩)]) ∧ IHolds w' w.heap.size 30 [.slice a n c] ∧ Below w.heap.size w w' := by
  have hmf : ∀ (fn : Fn) (first cap : Array Value) (w : World), (Instr.makeFunc fn first cap).run Try.prog w = .ok (.func fn first cap) w := fun _ _ _ _ => rfl
  go_enter Try.func37, Try.ntmps37
  go_wp2_with fail
  go_ret
  exact ⟨rfl, IHolds.new w 30 [.slice a n c], (Below.refl _ _).alloc (Nat.le_refl _) _⟩
theorem sn_same {ns ms : List ByteArray} (h : ns.Perm ms) : sn ns = sn ms := by
  have tr : ∀ a b c : ByteArray, (!ltOf cfN b a) = true → (!ltOf cfN c b) = true → (!ltOf cfN c a) = true := fun a b c h1 h2 => by
    simp only [Bool.not_eq_true'] at *
    exact cf_swo.ntrans _ _ _ h2 h1
  have to : ∀ a b : ByteArray, ((!ltOf cfN b a) || (!ltOf cfN a b)) = true := fun a b => by
    by_cases e : ltOf cfN b a = true
    · have : ltOf cfN a b = false := by
        by_cases e2 : ltOf cfN a b = true
        · have := cf_swo.trans _ _ _ e e2
          rw [cf_swo.irrefl] at this
          cases this
        · simpa using e2
      simp [this]
    · simp [e]
  refine List.Perm.eq_of_pairwise (le := fun a b => (!ltOf cfN b a) = true) (fun a b _ _ h1 h2 => ?_) (List.pairwise_mergeSort tr to ns) (List.pairwise_mergeSort tr to ms) (((List.mergeSort_perm ns _).trans h).trans (List.mergeSort_perm ms _).symm)
  simp only [Bool.not_eq_true'] at h1 h2
  exact cf_total h2 h1
/-- The boxes, as they are ranged over. -/
theorem boxes20 {l : List Hd} {cb bm bs : Nat} {w : World} (hc : CU w cb bm bs l) (hi : Inv1 l) :
    Calls Try.prog 20 #[.pointer (some ⟨cb, 0, none⟩)] w fun e w' => (∃ vb v, e = .returned (.func (.func 42) #[] #[.pointer (some ⟨vb, 0, none⟩)]) ∧ w.heap.size ≤ vb ∧ IHolds w' vb 30 [v] ∧ BL w' v l (sn (packs l))) ∧ Below w.heap.size w w' := by
  refine collect20 (R := fun v W => BL W v l (sn (packs l))) hc hi (fun ns v V hp ho hb hs => ?_) (fun a n c V => values37 a n c V) (fun v V V' h hb => h.of_below hb)
  have h9 : ns.length ≤ 256 := by rw [hp.length_eq]; exact hi.few
  refine (sort_all (r := w.heap.size) h9 ho hb hs).mono ?_
  rintro e w' ⟨h1, a, c, h2, h3, h4⟩
  exact ⟨h1, a, c, h2, h3, by rw [← sn_same hp]; exact h4⟩
end Go.Proofs.Ytafekaonmpkhiaa
