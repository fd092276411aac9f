/- Pairs, Paths and Smith: the law. -/
import Derived.Test.YtcdmndcpjememaaQl
set_option linter.unusedSimpArgs false
set_option linter.unusedVariables false
set_option maxRecDepth 100000
namespace Go.Proofs.Ytcdmndcpjememaa
open Go.RowKit Go.Deep Go.PlainAid

theorem lists6_nil {w : World} : Calls Try.prog 6 #[.slice none 0 0, .slice none 0 0] w fun e w' => e = .returned (.bool true) ∧ Below w.heap.size w w' := by
  exact sameLists6 (n := 0) (M := fun _ _ => 0) (by omega) (fun i hi => by cases hi) (fun i hi => by cases hi)
theorem ints11_nil {w : World} : Calls Try.prog 11 #[.slice none 0 0, .slice none 0 0] w fun e w' => e = .returned (.bool true) ∧ Below w.heap.size w w' := by
  exact sameInts11 (n := 0) (f := fun _ => 0) (by omega) (fun i hi => by cases hi) (fun i hi => by cases hi)
/-- A pair of answers that are alike. -/
def PairL (W : World) (v1 v2 : Value) : Prop := ∀ V, Below W.heap.size W V → Calls Try.prog 6 #[v1, v2] V fun e w' => e = .returned (.bool true) ∧ Below V.heap.size V w'
def PairI (W : World) (v1 v2 : Value) : Prop := ∀ V, Below W.heap.size W V → Calls Try.prog 11 #[v1, v2] V fun e w' => e = .returned (.bool true) ∧ Below V.heap.size V w'
theorem PairL.nil (W : World) : PairL W (.slice none 0 0) (.slice none 0 0) := fun V _ => lists6_nil
theorem PairI.nil (W : World) : PairI W (.slice none 0 0) (.slice none 0 0) := fun V _ => ints11_nil
theorem PairL.sq {W : World} {a b : Option Addr} {n c d : Nat} {M : Mt} (hn : n ≤ 4096) (h1 : SQ W a n M) (h2 : SQ W b n M) : PairL W (.slice a n c) (.slice b n d) := fun V hV => sameLists6 hn (h1.of_below hV) (h2.of_below hV)
theorem PairI.ls {W : World} {v1 v2 : Value} {l : List Int} (hn : l.length ≤ 4096) (h1 : LS W v1 l) (h2 : LS W v2 l) : PairI W v1 v2 := fun V hV => by
  obtain ⟨a, c, rfl, _, _, _, _, i1⟩ := h1.ex
  obtain ⟨b, d, rfl, _, _, _, _, i2⟩ := h2.ex
  exact sameInts11 hn (i1.ir.of_below hV) (i2.ir.of_below hV)
theorem wc_or (n : Nat) (r s : Int) : wc n r s = 0 ∨ wc n r s = 2 := by unfold wc; split <;> simp
/-- The two Pairs, one behind the other. -/
theorem both_pairs {w : World} {nm : ByteArray} {ca a : Option Addr} {n cc c : Nat} {r s m : Int} {L : List (List Int)} (hs : LL w a L) :
    ∃ z : Int, ∀ W, Below w.heap.size w W → Calls Try.prog 4 #[CV nm ca n cc r s m, .slice a L.length c] W fun e w1 => (∃ v1, e = .returned (.tuple #[v1, .int .i64 z]) ∧
      ∀ W', Below w1.heap.size w1 W' → Calls Try.prog 5 #[CV nm ca n cc r s m, .slice a L.length c] W' fun e w2 => (∃ v2, e = .returned (.tuple #[v2, .int .i64 z]) ∧ PairL w2 v1 v2) ∧ Below W'.heap.size W' w2) ∧ Below W.heap.size W w1 := by
  rcases wc_or n r s with hw | hw
  · by_cases hb : wb n L = 0
    · refine ⟨0, fun W hW => (pairs4_ok hw hb (hs.of_below hW)).mono ?_⟩
      rintro e w1 ⟨⟨b, rfl, hm⟩, hB⟩
      refine ⟨⟨_, rfl, fun W' hW' => (pairs5_ok hw hb (((hs.of_below hW).of_below hB).of_below hW')).mono ?_⟩, hB⟩
      rintro e w2 ⟨⟨a', c', rfl, hq⟩, hB2⟩
      exact ⟨⟨_, rfl, PairL.sq (by have := (wc_fits hw).1; omega) (((hm.of_below hW').of_below hB2).sq) hq⟩, hB2⟩
    · refine ⟨wb n L, fun W hW => (pairs4_b hw hb rfl (hs.of_below hW)).mono ?_⟩
      rintro e w1 ⟨rfl, hB⟩
      refine ⟨⟨_, rfl, fun W' hW' => (pairs5_b hw hb rfl (((hs.of_below hW).of_below hB).of_below hW')).mono ?_⟩, hB⟩
      rintro e w2 ⟨rfl, hB2⟩
      exact ⟨⟨_, rfl, PairL.nil _⟩, hB2⟩
  · refine ⟨2, fun W hW => (pairs4_w hw).mono ?_⟩
    rintro e w1 ⟨rfl, hB⟩
    refine ⟨⟨_, rfl, fun W' hW' => (pairs5_w hw).mono ?_⟩, hB⟩
    rintro e w2 ⟨rfl, hB2⟩
    exact ⟨⟨_, rfl, PairL.nil _⟩, hB2⟩
theorem both_paths {w : World} {a : Option Addr} {c : Nat} {L : List (List Int)} (hs : LL w a L) :
    ∀ W, Below w.heap.size w W → Calls Try.prog 7 #[.slice a L.length c] W fun e w1 => (∃ v1, e = .returned (.tuple #[v1, .int .i64 (wpC L)]) ∧
      ∀ W', Below w1.heap.size w1 W' → Calls Try.prog 8 #[.slice a L.length c] W' fun e w2 => (∃ v2, e = .returned (.tuple #[v2, .int .i64 (wpC L)]) ∧ PairL w2 v1 v2) ∧ Below W'.heap.size W' w2) ∧ Below W.heap.size W w1 := by
  intro W hW
  refine (paths7 (hs.of_below hW)).mono ?_
  rintro e w1 ⟨⟨hk, rfl⟩ | ⟨hk, b, M, rfl, hM, hm⟩, hB⟩
  · refine ⟨⟨_, rfl, fun W' hW' => (refPaths8_bad hk (wrongPairs18 (((hs.of_below hW).of_below hB).of_below hW'))).mono ?_⟩, hB⟩
    rintro e w2 ⟨rfl, hB2⟩
    exact ⟨⟨_, rfl, PairL.nil _⟩, hB2⟩
  · have F := fine_of hk
    rw [hk]
    refine ⟨⟨_, rfl, fun W' hW' => ?_⟩, hB⟩
    have hL := ((hs.of_below hW).of_below hB).of_below hW'
    have C := wrongPairs18 (c := c) hL
    rw [hk] at C
    refine (refPaths8_ok F.most (hL.sq F.rows) (fun i j hi hj => F.hi i j hi hj) C).mono ?_
    rintro e w2 ⟨⟨b2, M2, rfl, hM2, hm2⟩, hB2⟩
    exact ⟨⟨_, rfl, PairL.sq (by have := F.most; omega) (((hm.of_below hW').of_below hB2).sq) (hm2.sq.congr fun i j hi hj => hM2.eq hM hi hj)⟩, hB2⟩
theorem both_smith {w : World} {a : Option Addr} {c : Nat} {L : List (List Int)} (hs : LL w a L) :
    ∀ W, Below w.heap.size w W → Calls Try.prog 9 #[.slice a L.length c] W fun e w1 => (∃ v1, e = .returned (.tuple #[v1, .int .i64 (wpC L)]) ∧
      ∀ W', Below w1.heap.size w1 W' → Calls Try.prog 10 #[.slice a L.length c] W' fun e w2 => (∃ v2, e = .returned (.tuple #[v2, .int .i64 (wpC L)]) ∧ PairI w2 v1 v2) ∧ Below W'.heap.size W' w2) ∧ Below W.heap.size W w1 := by
  intro W hW
  by_cases hk : wpC L = 0
  · have F := fine_of hk
    rw [hk]
    refine (smith9_ok (hs.of_below hW) hk).mono ?_
    rintro e w1 ⟨⟨v, f, rfl, hf, hl⟩, hB⟩
    refine ⟨⟨_, rfl, fun W' hW' => ?_⟩, hB⟩
    have hL := ((hs.of_below hW).of_below hB).of_below hW'
    have C := wrongPairs18 (c := c) hL
    rw [hk] at C
    refine (refSmith10_ok F.pos F.most (hL.sq F.rows) C).mono ?_
    rintro e w2 ⟨⟨v2, g, rfl, hg, hl2⟩, hB2⟩
    refine ⟨⟨_, rfl, PairI.ls (l := zi (lst L.length f)) ?_ ((hl.of_below hW').of_below hB2) (by rw [hf.same hg]; exact hl2)⟩, hB2⟩
    have h1 : (lst L.length f).length ≤ L.length := by unfold lst; exact Nat.le_trans (List.length_filter_le _ _) (by simp)
    have h2 := F.most
    simp [zi]; omega
  · refine (smith9_bad (hs.of_below hW) hk).mono ?_
    rintro e w1 ⟨rfl, hB⟩
    refine ⟨⟨_, rfl, fun W' hW' => (refSmith10_bad hk (wrongPairs18 (((hs.of_below hW).of_below hB).of_below hW'))).mono ?_⟩, hB⟩
    rintro e w2 ⟨rfl, hB2⟩
    exact ⟨⟨_, rfl, PairI.nil _⟩, hB2⟩
end Go.Proofs.Ytcdmndcpjememaa
