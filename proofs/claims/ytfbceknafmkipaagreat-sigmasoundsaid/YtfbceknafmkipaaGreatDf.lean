/- ExtractAny of two that fit. -/
import Derived.Test.YtfbceknafmkipaaGreatDe
import Derived.Test.YtfbceknafmkipaaGreatSl9
set_option linter.unusedSimpArgs false
set_option linter.unusedVariables false
set_option maxRecDepth 100000
namespace Go.Proofs.YtfbceknafmkipaaGreat
open Go.RowKit Go.Deep Go.PlainAid

section
variable {z : Int} {G : Array Value} {S Wd M low one sq Ri Wd2 M2 low2 one2 sq2 Ri2 : Nat}
/-- A difference, and what is extracted of two answers. -/
def dif (S M : Nat) (r s : ByteArray) : ByteArray := TX S ((numS r + M - numS s) % M)
def ext (S M : Nat) (c d r s : ByteArray) : ByteArray := TX S ((numS r + M - numS s) % M * (((numS c + M - numS d) % M) ^ (M - 2) % M) % M)
theorem dif_nz {S M : Nat} (hq : IsP M) {c d : ByteArray} (hc : isSc S M c = true) (hd : isSc S M d = true) (hcd : c ≠ d) : (numS c + M - numS d) % M ≠ 0 := fun h0 => by
  have h1 := isSc_lt hc
  have h2 := isSc_lt hd
  have hne : numS c ≠ numS d := fun he => hcd (by rw [← TX_numS (isSc_size hc), ← TX_numS (isSc_size hd), he])
  by_cases hl : numS d ≤ numS c
  · rw [show numS c + M - numS d = (numS c - numS d) + M by omega, Nat.add_mod_right, Nat.mod_eq_of_lt (by omega)] at h0
    omega
  · rw [Nat.mod_eq_of_lt (by omega)] at h0
    omega
theorem ext_mul {S M : Nat} (hs : M ≤ 256 ^ S) (hq : IsP M) {c d r s : ByteArray} (hc : isSc S M c = true) (hd : isSc S M d = true) (hcd : c ≠ d) : numS (ext S M c d r s) * ((numS c + M - numS d) % M) % M = (numS r + M - numS s) % M := by
  have m1 := hq.1
  have nz := dif_nz hq hc hd hcd
  have hlt : (numS c + M - numS d) % M < M := Nat.mod_lt _ (by omega)
  unfold ext
  rw [numS_TX (Nat.lt_of_lt_of_le (Nat.mod_lt _ (by omega)) hs)]
  generalize (numS c + M - numS d) % M = n at *
  have ht : (numS r + M - numS s) % M < M := Nat.mod_lt _ (by omega)
  generalize (numS r + M - numS s) % M = t at *
  have i := inv_pow hq (hq.not_dvd_lt (Nat.pos_of_ne_zero nz) hlt)
  rw [Nat.mod_mul_mod, Nat.mul_assoc, Nat.mul_mod, Nat.mod_mul_mod (n ^ (M - 2)), i, Nat.mod_eq_of_lt ht, Nat.mul_one, Nat.mod_eq_of_lt ht]
theorem EXA (k : KD z G S Wd M low one sq Ri Wd2 M2 low2 one2 sq2 Ri2) (hq : IsP M) {w : World} {a1 a2 b1 b2 : Option Addr} {xs ys : List ByteArray} {ll mm : List (List ByteArray)} {c1 c2 d1 d2 j : Nat}
    (hx : xs.length ≤ 8796093022207) (hy : ys.length ≤ 8796093022207) (hl : Lens ll) (hm : Lens mm) (hl2 : ll.length ≤ 8796093022207) (hm2 : mm.length ≤ 8796093022207) (s1 : SL w a1 xs) (s2 : SLL w a2 ll) (t1 : SL w b1 ys) (t2 : SLL w b2 mm)
    (hcode : wpCode (isSc S M) xs ys ll mm = 0) (fd : FD xs ys j) (kl : j < ll.length) (km : j < mm.length) (hn : (ll[j]).length ≤ 8796093022207) (he : (mm[j]).length = (ll[j]).length)
    (sx : isSc S M (xs[j]'fd.lt1) = true) (sy : isSc S M (ys[j]'fd.lt2) = true) (sl : (ll[j]).all (isSc S M) = true) (sm : (mm[j]).all (isSc S M) = true) :
    Calls Tryz.prog 28 #[.int .i64 z, .agg #[.slice a1 xs.length c1, .slice a2 ll.length c2], .agg #[.slice b1 ys.length d1, .slice b2 mm.length d2]] w fun e w' => (∃ a' c', e = .returned (.tuple #[.int .i64 (j : Int), .slice a' (List.zipWith (ext S M (xs[j]'fd.lt1) (ys[j]'fd.lt2)) ll[j] mm[j]).length c', .int .i64 0]) ∧ SL w' a' (List.zipWith (ext S M (xs[j]'fd.lt1) (ys[j]'fd.lt2)) ll[j] mm[j])) ∧ Below w.heap.size w w' := by
  have m1 := hq.1
  have kx := fd.lt1
  have ky := fd.lt2
  have nz := dif_nz hq sx sy fd.ne
  refine any9_yes (fun W => groundOf_yes k W) (fun W hW => ?_) (fun W hW => place32 hx hy (s1.of_below hW) (t1.of_below hW) fd) (fun W hW => ?_)
  · have q := wrongPair31 (w := W) (c1 := c1) (c2 := c2) (d1 := d1) (d2 := d2) (isSc S M) hx hy hl hm (s1.of_below hW) (s2.of_below hW) (t1.of_below hW) (t2.of_below hW) (fun s X => noScalar k s X)
    rw [hcode] at q
    exact q
  · refine extract33 (dd := dif S M xs[j] ys[j]) (part := TX S (((numS xs[j] + M - numS ys[j]) % M) ^ (M - 2) % M)) (qs := List.zipWith (dif S M) ll[j] mm[j]) hx hy hl2 hm2 kx ky kl km (s1.of_below hW) (s2.of_below hW) (t1.of_below hW) (t2.of_below hW) hn he (by simp; omega) (by simp; omega) (fun V => minus68 (y := 0) (fun X => ?_)) (fun V => inverse67 (y := 0) (fun X => ?_)) (fun i h1 h2 h3 V => minus68 (y := 0) (fun X => ?_)) (fun i h1 h2 V => times72 (y := 0) (fun X => ?_))
    · have q := SUB k (isSc_lt sx) (isSc_lt sy) X
      rw [TX_numS (isSc_size sx), TX_numS (isSc_size sy)] at q
      exact q
    · have l9 : (numS xs[j] + M - numS ys[j]) % M < M := Nat.mod_lt _ (by omega)
      have q := inv_yes k X (a := dif S M xs[j] ys[j]) (k.sc l9) (by unfold dif; rw [k.nu l9]; exact nz)
      unfold dif at q ⊢
      rw [k.nu l9] at q
      exact q
    · have r1 : isSc S M (ll[j])[i] = true := List.all_eq_true.1 sl _ (List.getElem_mem h1)
      have r2 : isSc S M (mm[j])[i] = true := List.all_eq_true.1 sm _ (List.getElem_mem h2)
      have q := SUB k (isSc_lt r1) (isSc_lt r2) X
      rw [TX_numS (isSc_size r1), TX_numS (isSc_size r2)] at q
      rw [List.getElem_zipWith]
      exact q
    · rw [List.getElem_zipWith, List.getElem_zipWith]
      exact MUL k (Nat.mod_lt _ (by omega)) (Nat.mod_lt _ (by omega)) X
end
end Go.Proofs.YtfbceknafmkipaaGreat
