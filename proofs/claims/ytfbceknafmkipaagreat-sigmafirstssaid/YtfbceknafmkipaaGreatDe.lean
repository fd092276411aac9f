/- Two answers to one first, at two challenges: what is extracted holds. -/
import Derived.Test.YtfbceknafmkipaaGreatDd
import Derived.Test.YtfbceknafmkipaaGreatCj
set_option linter.unusedSimpArgs false
set_option linter.unusedVariables false
set_option maxRecDepth 100000
namespace Go.Proofs.YtfbceknafmkipaaGreat

theorem E_mulR {M M2 x x' y : Nat} (e : M2 = 2 * M + 1) (h : E M M2 x = E M M2 x') : E M M2 (x * y) = E M M2 (x' * y) := by
  rw [← E_left e, ← E_left e, h]
theorem E_mulL {M M2 x x' y : Nat} (e : M2 = 2 * M + 1) (h : E M M2 x = E M M2 x') : E M M2 (y * x) = E M M2 (y * x') := by
  rw [Nat.mul_comm y x, Nat.mul_comm y x']
  exact E_mulR e h
theorem E_powR {M M2 x x' n : Nat} (hq : IsP M) (e : M2 = 2 * M + 1) (h : E M M2 x = E M M2 x') : E M M2 (x ^ n) = E M M2 (x' ^ n) := by
  rw [← E_powE hq e, ← E_powE hq e, h]
theorem sound_plain {M M2 b i r s c d x : Nat} (hp : IsP M2) (hq : IsP M) (e : M2 = 2 * M + 1) (nb : ¬ M2 ∣ b) (ni : ¬ M2 ∣ i) (hr : r < M) (hs : s < M) (hc : c < M) (hd : d < M) (hcd : c ≠ d)
    (hx : x * ((c + M - d) % M) % M = (r + M - s) % M)
    (g : E M M2 (b ^ r * i ^ ((0 + M - c) % M)) = E M M2 (b ^ s * i ^ ((0 + M - d) % M))) : E M M2 (b ^ x) = E M M2 i := by
  have m1 := hq.1
  have z0 : ∀ t, t < M → ((0 + M - t) % M + t) % M = 0 := fun t ht => by
    rw [Nat.mod_add_mod, show 0 + M - t + t = M by omega, Nat.mod_self]
  obtain ⟨n, hn⟩ : ∃ n, n = (c + M - d) % M := ⟨_, rfl⟩
  obtain ⟨t, ht⟩ : ∃ t, t = (r + M - s) % M := ⟨_, rfl⟩
  have vc : ((0 + M - d) % M + c) % M = n % M := by
    rw [hn, Nat.mod_mod, Nat.mod_add_mod, show 0 + M - d + c = c + M - d by omega]
  have uc := z0 c hc
  rw [← hn, ← ht] at hx
  have hnd : ¬ M ∣ n := fun h => by
    have h0 : n = 0 := Nat.eq_zero_of_dvd_of_lt h (by rw [hn]; exact Nat.mod_lt _ (by omega))
    rw [hn] at h0
    by_cases hl : d ≤ c
    · rw [show c + M - d = (c - d) + M by omega, Nat.add_mod_right, Nat.mod_eq_of_lt (by omega)] at h0
      omega
    · rw [Nat.mod_eq_of_lt (by omega)] at h0
      omega
  generalize (0 + M - c) % M = u at *
  generalize (0 + M - d) % M = v at *
  have g1 : E M M2 (b ^ t) = E M M2 (i ^ n) := by
    have a1 := E_mulR (y := b ^ (M - s) * i ^ c) e g
    have l1 : b ^ r * i ^ u * (b ^ (M - s) * i ^ c) = b ^ (r + M - s) * i ^ (u + c) := by
      rw [show r + M - s = r + (M - s) by omega, Nat.pow_add, Nat.pow_add]
      simp only [Nat.mul_comm, Nat.mul_left_comm, Nat.mul_assoc]
    have l2 : b ^ s * i ^ v * (b ^ (M - s) * i ^ c) = b ^ M * i ^ (v + c) := by
      rw [show b ^ M = b ^ (s + (M - s)) by rw [show s + (M - s) = M by omega], Nat.pow_add, Nat.pow_add]
      simp only [Nat.mul_comm, Nat.mul_left_comm, Nat.mul_assoc]
    rw [l1, l2] at a1
    have b1 : E M M2 (b ^ (r + M - s) * i ^ (u + c)) = E M M2 (b ^ t * 1) := by
      rw [E_mulR e (E_sameA hp hq e nb (l := t) (by rw [ht, Nat.mod_mod]))]
      have := E_sameA hp hq e ni (k := u + c) (l := 0) (by rw [uc]; simp)
      rw [Nat.pow_zero] at this
      exact E_mulL e this
    have b2 : E M M2 (b ^ M * i ^ (v + c)) = E M M2 (1 * i ^ n) := by
      rw [E_mulL e (E_sameA hp hq e ni (l := n) vc)]
      have := E_sameA hp hq e nb (k := M) (l := 0) (by rw [Nat.mod_self]; simp)
      rw [Nat.pow_zero] at this
      exact E_mulR e this
    rw [b1, b2, Nat.mul_one, Nat.one_mul] at a1
    exact a1
  have nbx : ¬ M2 ∣ b ^ x := hp.not_dvd_pow nb x
  have g2 : E M M2 ((b ^ x) ^ n) = E M M2 (i ^ n) := by
    rw [← g1, ← Nat.pow_mul]
    exact E_sameA hp hq e nb (by rw [hx, ht, Nat.mod_mod])
  generalize b ^ x = y at nbx g2 ⊢
  have g3 := E_powR (n := n ^ (M - 2)) hq e g2
  rw [← Nat.pow_mul, ← Nat.pow_mul] at g3
  have one : n * n ^ (M - 2) % M = 1 % M := by rw [Nat.mul_comm, inv_pow hq hnd, Nat.mod_eq_of_lt (by omega)]
  have q1 := E_sameA hp hq e nbx one
  have q2 := E_sameA hp hq e ni one
  rw [Nat.pow_one] at q1 q2
  rw [← q1, g3, q2]
/-- Of a whole set. -/
theorem sound_set {S M M2 c d : Nat} (h : PK S M M2) {l : List Cl} (ok : OkC (isEl S M) l) {m n xs : List ByteArray} (hm : m.length = l.length) (hn : n.length = l.length) (hx : xs.length = l.length) (sm : m.all (isSc S M) = true) (sn : n.all (isSc S M) = true) (hc : c < M) (hd : d < M) (hcd : c ≠ d)
    (he : ∀ i (h1 : i < m.length) (h2 : i < n.length) (h3 : i < xs.length), numS xs[i] * ((c + M - d) % M) % M = (numS m[i] + M - numS n[i]) % M)
    (hb : bkG S M M2 ((0 + M - c) % M) l m = bkG S M M2 ((0 + M - d) % M) l n) : l.map Prod.snd = fsG S M M2 l xs := by
  refine List.ext_getElem (by simp [fsG]; omega) (fun i h1 h2 => ?_)
  have hi : i < l.length := by simpa using h1
  have f := ok.few i hi
  have el := ok.el i hi
  have e1 : (bkG S M M2 ((0 + M - c) % M) l m)[i]? = (bkG S M M2 ((0 + M - d) % M) l n)[i]? := by rw [hb]
  have am := isSc_lt (List.all_eq_true.1 sm _ (List.getElem_mem (show i < m.length by omega)))
  have an := isSc_lt (List.all_eq_true.1 sn _ (List.getElem_mem (show i < n.length by omega)))
  have ee := he i (by omega) (by omega) (by omega)
  unfold bkG at e1
  rw [List.getElem?_eq_getElem (by simp; omega), List.getElem?_eq_getElem (by simp; omega), List.getElem_zipWith, List.getElem_zipWith] at e1
  have e2 := Option.some.inj e1
  simp only [fsG, List.getElem_map, List.getElem_zipWith]
  generalize l[i] = t at *
  generalize m[i] = r at *
  generalize n[i] = s at *
  generalize xs[i] = x at *
  refine List.ext_getElem (by simp; omega) (fun j j1 j2 => ?_)
  have jb : j < t.1.length := by omega
  have e3 : (List.zipWith (fun b y => EX S M M2 (numS b ^ numS r * numS y ^ ((0 + M - c) % M))) t.1 t.2)[j]? = (List.zipWith (fun b y => EX S M M2 (numS b ^ numS s * numS y ^ ((0 + M - d) % M))) t.1 t.2)[j]? := by rw [e2]
  rw [List.getElem?_eq_getElem (by simp; omega), List.getElem?_eq_getElem (by simp; omega), List.getElem_zipWith, List.getElem_zipWith] at e3
  have e4 := EX_inj h (Option.some.inj e3)
  rw [List.getElem_map]
  have eb : isEl S M t.1[j] = true := List.all_eq_true.1 el.1 _ (List.getElem_mem jb)
  have ei : isEl S M t.2[j] = true := List.all_eq_true.1 el.2 _ (List.getElem_mem j1)
  have q := sound_plain h.hp h.hq h.e2 (el_nd h eb) (el_nd h ei) am an hc hd hcd ee e4
  rw [← el_EX h ei]
  unfold EX
  rw [q]
end Go.Proofs.YtfbceknafmkipaaGreat
