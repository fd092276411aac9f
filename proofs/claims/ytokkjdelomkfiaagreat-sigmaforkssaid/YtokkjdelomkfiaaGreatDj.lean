/- The law SigmaForks, whatever is handed in. -/
import Derived.Test.YtokkjdelomkfiaaGreatDi
set_option linter.unusedSimpArgs false
set_option linter.unusedVariables false
set_option maxRecDepth 100000
namespace Go.Proofs.YtokkjdelomkfiaaGreat
open Go.RowKit Go.Deep Go.PlainAid

theorem pkz1 : PK 2 641 1283 := ⟨prime_p1, prime_q1, by decide +kernel, by decide +kernel⟩
theorem pkz2 : PK 8 576465431670292481 1152930863340584963 := ⟨prime_p2, prime_q2, by decide +kernel, by decide +kernel⟩
theorem pkz3 : PK 32 7237005577332262213973186563042995786902308146886443998308627866733439352833 14474011154664524427946373126085991573804616293772887996617255733466878705667 := ⟨prime_p3, prime_q3, by decide +kernel, by decide +kernel⟩
theorem forks_walk (z : Int) {w : World} {sa a1 a2 b1 b2 : Option Addr} {sc c1 c2 d1 d2 : Nat} {sets : List (List Cl)} {xs ys : List ByteArray} {ll mm : List (List ByteArray)} (h63 : sets.length ≤ 8796093022207)
    (hss : ∀ i (h : i < sets.length), (sets[i]).length ≤ 9223372036854775807 ∧ ∀ j (h' : j < (sets[i]).length), ((sets[i])[j]).1.length ≤ 9223372036854775807 ∧ ((sets[i])[j]).2.length ≤ 9223372036854775807)
    (lo : ∀ i (h : i < ll.length), (ll[i]).length ≤ 8796093022207) (lo2 : ∀ i (h : i < mm.length), (mm[i]).length ≤ 8796093022207)
    (hs : CMM w sa sets) (s1 : SL w a1 xs) (s2 : SLL w a2 ll) (t1 : SL w b1 ys) (t2 : SLL w b2 mm) :
    Calls Tryz.prog 3 #[.int .i64 z, .slice sa sets.length sc, .agg #[.slice a1 xs.length c1, .slice a2 ll.length c2], .agg #[.slice b1 ys.length d1, .slice b2 mm.length d2]] w fun e w' => e = .returned (.bool true) ∧ Below w.heap.size w w' := by
  by_cases h0 : sets.length = 0
  · exact law_A (by rw [h0]; rfl)
  have g1 : ((sets.length : Int) == 0) = false := beq_eq_false_iff_ne.2 (by omega)
  by_cases hx : xs.length = sets.length
  case neg => exact law_B g1 (bne_iff_ne.2 (by omega))
  have g2 : ((xs.length : Int) != (sets.length : Int)) = false := by rw [hx]; simp
  by_cases hy : ys.length = sets.length
  case neg => exact law_C g1 g2 (bne_iff_ne.2 (by omega))
  have g3 : ((ys.length : Int) != (sets.length : Int)) = false := by rw [hy]; simp
  by_cases hl : ll.length = sets.length
  case neg => exact law_D g1 g2 g3 (bne_iff_ne.2 (by omega))
  have g4 : ((ll.length : Int) != (sets.length : Int)) = false := by rw [hl]; simp
  by_cases hm : mm.length = sets.length
  case neg => exact law_E g1 g2 g3 g4 (bne_iff_ne.2 (by omega))
  clear g1 g2 g3 g4
  rw [hx, hy, hl, hm]
  by_cases z1 : z = 1
  · subst z1; exact forks_kind kd1 pkz1 (by omega) h63 hss hx hy hl hm lo lo2 hs s1 s2 t1 t2
  by_cases z2 : z = 2
  · subst z2; exact forks_kind kd2 pkz2 (by omega) h63 hss hx hy hl hm lo lo2 hs s1 s2 t1 t2
  by_cases z3 : z = 3
  · subst z3; exact forks_kind kd3 pkz3 (by omega) h63 hss hx hy hl hm lo lo2 hs s1 s2 t1 t2
  have bad : ∀ (a a' : Option Addr) (n c m c' : Nat) (u : ByteArray) (W : World), Calls Tryz.prog 4 #[.int .i64 z, .slice a n c, .string u, .slice a' m c'] W fun e w' => (∃ a9 c9 n9, e = .returned (.tuple #[.slice a9 n9 c9, .int .i64 1]) ∧ ((1 : Int) = 0 → n9 = n ∧ SLL w' a9 [])) ∧ Below W.heap.size W w' := fun a a' n c m c' u W =>
    (back4_bad (k := 1) rfl rfl (fun V hV => setOf9_none rfl (fun X => groundOf_no z1 z2 z3 X))).mono (by rintro e w' ⟨rfl, hB⟩; exact ⟨⟨none, 0, 0, rfl, fun h0 => absurd h0 (by decide)⟩, hB⟩)
  exact law_main (ka := fun _ => 1) (kb := fun _ => 1) (La := fun _ => []) (Lb := fun _ => []) (by omega) h63 hx hy hl hm hs s1 s2 t1 t2 (fun i hi i1 i2 a c a' c' W _ _ _ => bad a a' _ c _ c' _ W) (fun i hi i1 i2 a c a' c' W _ _ _ => bad a a' _ c _ c' _ W) (fun i hi ha => absurd ha (by decide)) (fun hall => absurd (hall 0 (by omega)).1 (by decide))
end Go.Proofs.YtokkjdelomkfiaaGreat
