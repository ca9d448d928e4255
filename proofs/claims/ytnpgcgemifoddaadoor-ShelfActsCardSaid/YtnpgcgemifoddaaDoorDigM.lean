/- The numbers of layer 2: words of 32 bits as plain numbers, and what the layer makes of them, said once for the program and for the document. -/
import Derived.Test.YtnpgcgemifoddaaDoorBase
import Derived.Laws.BitsAllLaws
namespace Go.Proofs.YtnpgcgemifoddaaDoor
set_option linter.unusedVariables false

abbrev W32 : Nat := 4294967296

/-- x turned to the right by n bits. -/
def rotr (x n : Nat) : Nat := x / 2 ^ n + x % 2 ^ n * 2 ^ (32 - n)

theorem pow_split (n : Nat) (hn : n ≤ 32) : (W32 : Nat) = 2 ^ n * 2 ^ (32 - n) := by
  rw [← Nat.pow_add, show n + (32 - n) = 32 by omega]

theorem hi_lt (x n : Nat) (hx : x < W32) (hn : n ≤ 32) : x / 2 ^ n < 2 ^ (32 - n) := by
  rw [Nat.div_lt_iff_lt_mul (Nat.two_pow_pos n), Nat.mul_comm, ← pow_split n hn]
  exact hx

theorem rotr_lt (x n : Nat) (hx : x < W32) (hn : n ≤ 32) : rotr x n < W32 := by
  have h1 := hi_lt x n hx hn
  have h2 : x % 2 ^ n < 2 ^ n := Nat.mod_lt _ (Nat.two_pow_pos n)
  have h3 : (x % 2 ^ n + 1) * 2 ^ (32 - n) ≤ 2 ^ n * 2 ^ (32 - n) := Nat.mul_le_mul_right _ h2
  rw [← pow_split n hn, Nat.add_mul] at h3
  unfold rotr
  omega

theorem rotr_or (x n : Nat) (hx : x < W32) (hn : n ≤ 32) : (x * 2 ^ (32 - n) % W32) ||| (x / 2 ^ n) = rotr x n := by
  have h1 := hi_lt x n hx hn
  rw [show x * 2 ^ (32 - n) % W32 = x % 2 ^ n * 2 ^ (32 - n) by rw [pow_split n hn, Nat.mul_mod_mul_right]]
  rw [← Nat.shiftLeft_eq, ← Nat.shiftLeft_add_eq_or_of_lt h1, Nat.shiftLeft_eq, Nat.add_comm]
  rfl

/-- One bit to the right. -/
def tstep (x : Nat) : Nat := x / 2 + x % 2 * 2147483648

theorem rotr_zero (x : Nat) : rotr x 0 = x := by simp [rotr, Nat.mod_one]

theorem tstep_rotr (x n : Nat) (hn : n < 32) : tstep (rotr x n) = rotr x (n + 1) := by
  unfold tstep rotr
  have e1 : 2 ^ (32 - n) = 2 * 2 ^ (32 - (n + 1)) := by
    rw [show 32 - n = (32 - (n + 1)) + 1 by omega, Nat.pow_succ, Nat.mul_comm]
  have e2 : x / 2 ^ (n + 1) = x / 2 ^ n / 2 := by rw [Nat.pow_succ, Nat.div_div_eq_div_mul]
  have e3 : x % 2 ^ (n + 1) = x % 2 ^ n + 2 ^ n * (x / 2 ^ n % 2) := by rw [Nat.pow_succ, Nat.mod_mul]
  have e4 : 2 ^ n * (x / 2 ^ n % 2) * 2 ^ (32 - (n + 1)) = x / 2 ^ n % 2 * 2147483648 := by
    rw [Nat.mul_comm (2 ^ n), Nat.mul_assoc, ← Nat.pow_add, show n + (32 - (n + 1)) = 31 by omega]
  rw [e3, Nat.add_mul, e4, e2, e1]
  have e5 : x % 2 ^ n * (2 * 2 ^ (32 - (n + 1))) = 2 * (x % 2 ^ n * 2 ^ (32 - (n + 1))) := by
    rw [Nat.mul_left_comm]
  rw [e5]
  omega

def s0 (x : Nat) : Nat := rotr x 7 ^^^ rotr x 18 ^^^ x / 8
def s1 (x : Nat) : Nat := rotr x 17 ^^^ rotr x 19 ^^^ x / 1024
def b0 (a : Nat) : Nat := rotr a 2 ^^^ rotr a 13 ^^^ rotr a 22
def b1 (e : Nat) : Nat := rotr e 6 ^^^ rotr e 11 ^^^ rotr e 25
def cho (e f g : Nat) : Nat := (e &&& f) ^^^ ((4294967295 - e) &&& g)
def maj (a b c : Nat) : Nat := (a &&& b) ^^^ (a &&& c) ^^^ (b &&& c)

theorem xor_lt {a b : Nat} (ha : a < W32) (hb : b < W32) : a ^^^ b < W32 := Nat.xor_lt_two_pow (n := 32) ha hb
theorem and_lt {a b : Nat} (hb : b < W32) : a &&& b < W32 := Nat.and_lt_two_pow (n := 32) a hb

theorem s0_lt {x : Nat} (h : x < W32) : s0 x < W32 := xor_lt (xor_lt (rotr_lt x 7 h (by omega)) (rotr_lt x 18 h (by omega))) (by unfold W32 at *; omega)
theorem s1_lt {x : Nat} (h : x < W32) : s1 x < W32 := xor_lt (xor_lt (rotr_lt x 17 h (by omega)) (rotr_lt x 19 h (by omega))) (by unfold W32 at *; omega)
theorem b0_lt {x : Nat} (h : x < W32) : b0 x < W32 := xor_lt (xor_lt (rotr_lt x 2 h (by omega)) (rotr_lt x 13 h (by omega))) (rotr_lt x 22 h (by omega))
theorem b1_lt {x : Nat} (h : x < W32) : b1 x < W32 := xor_lt (xor_lt (rotr_lt x 6 h (by omega)) (rotr_lt x 11 h (by omega))) (rotr_lt x 25 h (by omega))
theorem cho_lt {e f g : Nat} (hf : f < W32) (hg : g < W32) : cho e f g < W32 := xor_lt (and_lt hf) (and_lt hg)
theorem maj_lt {a b c : Nat} (hb : b < W32) (hc : c < W32) : maj a b c < W32 := xor_lt (xor_lt (and_lt hb) (and_lt hc)) (and_lt hc)

/-- Eight words on by one round. -/
def rnd (v : List Nat) (kw : Nat) : List Nat :=
  match v with
  | [a, b, c, d, e, f, g, h] =>
    [((h + b1 e + cho e f g + kw) % W32 + (b0 a + maj a b c) % W32) % W32, a, b, c, (d + (h + b1 e + cho e f g + kw) % W32) % W32, e, f, g]
  | _ => v

/-- n times. -/
def itn {α : Type} (f : Nat → α → α) (a : α) : Nat → α
  | 0 => a
  | n + 1 => f n (itn f a n)

/-- All are words. -/
def Ws (l : List Nat) : Prop := ∀ x ∈ l, x < W32

theorem Ws.get {l : List Nat} (h : Ws l) {i x : Nat} (hx : l[i]? = some x) : x < W32 := h x (List.mem_of_getElem? hx)
theorem Ws.getD {l : List Nat} (h : Ws l) (i : Nat) : l.getD i 0 < W32 := by
  rw [List.getD_eq_getElem?_getD]
  cases hq : l[i]? with
  | none => simp
  | some x => simpa using h.get hq
theorem Ws.set {l : List Nat} (h : Ws l) (i : Nat) {x : Nat} (hx : x < W32) : Ws (l.set i x) := fun y hy => by
  rcases List.mem_or_eq_of_mem_set hy with h1 | h1
  · exact h y h1
  · exact h1 ▸ hx

theorem rnd_len {v : List Nat} (h : v.length = 8) (k : Nat) : (rnd v k).length = 8 := by
  match v, h with
  | [a, b, c, d, e, f, g, h], _ => rfl
theorem rnd_ws {v : List Nat} (h : Ws v) (k : Nat) : Ws (rnd v k) := by
  unfold rnd
  split
  · intro x hx
    have hm : ∀ y : Nat, y % W32 < W32 := fun y => Nat.mod_lt _ (by decide)
    simp only [List.mem_cons, List.not_mem_nil, or_false] at hx
    rcases hx with rfl | rfl | rfl | rfl | rfl | rfl | rfl | rfl
    · exact hm _
    · exact h _ (by simp)
    · exact h _ (by simp)
    · exact h _ (by simp)
    · exact hm _
    · exact h _ (by simp)
    · exact h _ (by simp)
    · exact h _ (by simp)
  · exact h
theorem rnd_mod (v : List Nat) (k : Nat) : rnd v (k % W32) = rnd v k := by
  unfold rnd
  split <;> simp only [Nat.add_mod_mod]

def KL : List Nat := [0x428a2f98, 0x71374491, 0xb5c0fbcf, 0xe9b5dba5, 0x3956c25b, 0x59f111f1, 0x923f82a4, 0xab1c5ed5,
  0xd807aa98, 0x12835b01, 0x243185be, 0x550c7dc3, 0x72be5d74, 0x80deb1fe, 0x9bdc06a7, 0xc19bf174,
  0xe49b69c1, 0xefbe4786, 0x0fc19dc6, 0x240ca1cc, 0x2de92c6f, 0x4a7484aa, 0x5cb0a9dc, 0x76f988da,
  0x983e5152, 0xa831c66d, 0xb00327c8, 0xbf597fc7, 0xc6e00bf3, 0xd5a79147, 0x06ca6351, 0x14292967,
  0x27b70a85, 0x2e1b2138, 0x4d2c6dfc, 0x53380d13, 0x650a7354, 0x766a0abb, 0x81c2c92e, 0x92722c85,
  0xa2bfe8a1, 0xa81a664b, 0xc24b8b70, 0xc76c51a3, 0xd192e819, 0xd6990624, 0xf40e3585, 0x106aa070,
  0x19a4c116, 0x1e376c08, 0x2748774c, 0x34b0bcb5, 0x391c0cb3, 0x4ed8aa4a, 0x5b9cca4f, 0x682e6ff3,
  0x748f82ee, 0x78a5636f, 0x84c87814, 0x8cc70208, 0x90befffa, 0xa4506ceb, 0xbef9a3f7, 0xc67178f2]
def H0 : List Nat := [0x6a09e667, 0xbb67ae85, 0x3c6ef372, 0xa54ff53a, 0x510e527f, 0x9b05688c, 0x1f83d9ab, 0x5be0cd19]

theorem KL_len : KL.length = 64 := rfl
theorem KL_ws : Ws KL := by unfold Ws; decide
theorem H0_ws : Ws H0 := by unfold Ws; decide

/-- The byte number i comes behind those of its word. -/
def bstep (bs : List UInt8) (i : Nat) (l : List Nat) : List Nat := l.set (i / 4) (l.getD (i / 4) 0 * 256 + (bs.getD i 0).toNat)
def words0 (bs : List UInt8) (n : Nat) : List Nat := itn (bstep bs) (List.replicate 64 0) n
/-- The word number 16 + j. -/
def wstep (j : Nat) (l : List Nat) : List Nat :=
  l.set (16 + j) ((l.getD j 0 + s0 (l.getD (1 + j) 0) + l.getD (9 + j) 0 + s1 (l.getD (14 + j) 0)) % W32)
def sched (bs : List UInt8) (n : Nat) : List Nat := itn wstep (words0 bs 64) n
def rounds1 (v : List Nat) (w : List Nat) (n : Nat) : List Nat := itn (fun i v => rnd v (KL.getD i 0 + w.getD i 0)) v n
def adds (h v : List Nat) (n : Nat) : List Nat := itn (fun i l => l.set i ((l.getD i 0 + v.getD i 0) % W32)) h n
def comp (h : List Nat) (bs : List UInt8) : List Nat := adds h (rounds1 h (sched bs 48) 64) 8

theorem words0_len (bs : List UInt8) : ∀ n, (words0 bs n).length = 64
  | 0 => by simp [words0, itn]
  | n + 1 => by rw [words0, itn, bstep, List.length_set]; exact words0_len bs n
theorem sched_len (bs : List UInt8) : ∀ n, (sched bs n).length = 64
  | 0 => words0_len bs 64
  | n + 1 => by rw [sched, itn, wstep, List.length_set]; exact sched_len bs n
theorem rounds1_len {v : List Nat} (w : List Nat) (h : v.length = 8) : ∀ n, (rounds1 v w n).length = 8
  | 0 => h
  | n + 1 => by rw [rounds1, itn]; exact rnd_len (rounds1_len w h n) _
theorem adds_len (h v : List Nat) : ∀ n, (adds h v n).length = h.length
  | 0 => rfl
  | n + 1 => by rw [adds, itn, List.length_set]; exact adds_len h v n
theorem comp_len (h : List Nat) (bs : List UInt8) : (comp h bs).length = h.length := adds_len _ _ _

theorem getD_set (l : List Nat) (i j x : Nat) (hi : i < l.length) : (l.set i x).getD j 0 = if i = j then x else l.getD j 0 := by
  simp only [List.getD_eq_getElem?_getD, List.getElem?_set]
  by_cases h : i = j
  · subst h; simp [hi]
  · simp [h]

theorem words0_lt (bs : List UInt8) : ∀ n, n ≤ 64 → ∀ j, (words0 bs n).getD j 0 < 256 ^ min 4 (n - 4 * j)
  | 0, _, j => by
    simp only [words0, itn, List.getD_eq_getElem?_getD, List.getElem?_replicate]
    split <;> simp
  | n + 1, hn, j => by
    have ih := words0_lt bs n (by omega)
    have hl := words0_len bs n
    rw [show words0 bs (n + 1) = bstep bs n (words0 bs n) from rfl, bstep, getD_set _ _ _ _ (by omega)]
    split
    · rename_i e
      subst e
      have h1 := ih (n / 4)
      have hb := (bs.getD n 0).toNat_lt
      rw [show min 4 (n - 4 * (n / 4)) = n - 4 * (n / 4) by omega] at h1
      rw [show min 4 (n + 1 - 4 * (n / 4)) = n - 4 * (n / 4) + 1 by omega, Nat.pow_succ]
      omega
    · exact Nat.lt_of_lt_of_le (ih j) (Nat.pow_le_pow_right (by omega) (by omega))

theorem words0_at (bs : List UInt8) (n : Nat) (hn : n < 64) : (words0 bs n).getD (n / 4) 0 < 16777216 := by
  have h := words0_lt bs n (by omega) (n / 4)
  exact Nat.lt_of_lt_of_le h (Nat.le_trans (Nat.pow_le_pow_right (by omega) (show min 4 (n - 4 * (n / 4)) ≤ 3 by omega)) (by decide))

theorem words0_ws (bs : List UInt8) (n : Nat) (hn : n ≤ 64) : Ws (words0 bs n) := fun x hx => by
  obtain ⟨j, hj⟩ := List.getElem?_of_mem hx
  have h := words0_lt bs n hn j
  rw [List.getD_eq_getElem?_getD, hj] at h
  exact Nat.lt_of_lt_of_le h (Nat.le_trans (Nat.pow_le_pow_right (by omega) (show min 4 (n - 4 * j) ≤ 4 by omega)) (by decide))

theorem mod_lt32 (x : Nat) : x % W32 < W32 := Nat.mod_lt _ (by decide)

theorem sched_ws (bs : List UInt8) : ∀ n, Ws (sched bs n)
  | 0 => words0_ws bs 64 (Nat.le_refl _)
  | n + 1 => by rw [show sched bs (n + 1) = wstep n (sched bs n) from rfl, wstep]; exact (sched_ws bs n).set _ (mod_lt32 _)
theorem rounds1_ws {v : List Nat} (w : List Nat) (h : Ws v) : ∀ n, Ws (rounds1 v w n)
  | 0 => h
  | n + 1 => by rw [rounds1, itn]; exact rnd_ws (rounds1_ws w h n) _
theorem adds_ws {h : List Nat} (v : List Nat) (hh : Ws h) : ∀ n, Ws (adds h v n)
  | 0 => hh
  | n + 1 => by rw [adds, itn]; exact (adds_ws v hh n).set _ (mod_lt32 _)
theorem comp_ws {h : List Nat} (bs : List UInt8) (hh : Ws h) : Ws (comp h bs) := adds_ws _ hh _

/-- The blocks of a text, one behind the other. -/
def foldL (h : List Nat) (p : List UInt8) (n : Nat) : List Nat := itn (fun i h => comp h ((p.drop (64 * i)).take 64)) h n
theorem foldL_len (p : List UInt8) (h : List Nat) : ∀ n, (foldL h p n).length = h.length
  | 0 => rfl
  | n + 1 => by rw [foldL, itn, comp_len]; exact foldL_len p h n
theorem foldL_ws (p : List UInt8) {h : List Nat} (hh : Ws h) : ∀ n, Ws (foldL h p n)
  | 0 => hh
  | n + 1 => by rw [foldL, itn]; exact comp_ws _ (foldL_ws p hh n)

/-- The byte number i of the words. -/
def hbyte (h : List Nat) (i : Nat) : Nat := h.getD (i / 4) 0 / 2 ^ (8 * (3 - i % 4)) % 256
def hstep (h : List Nat) (i : Nat) (l : List Nat) : List Nat := l.set i (hbyte h i)
def hashL (h : List Nat) (n : Nat) : List Nat := itn (hstep h) (List.replicate 32 0) n
theorem hashL_len (h : List Nat) : ∀ n, (hashL h n).length = 32
  | 0 => by simp [hashL, itn]
  | n + 1 => by rw [hashL, itn, hstep, List.length_set]; exact hashL_len h n
theorem hashL_get (h : List Nat) : ∀ n, n ≤ 32 → ∀ i, i < n → (hashL h n).getD i 0 = hbyte h i
  | 0, _, i, hi => by omega
  | n + 1, hn, i, hi => by
    have hl := hashL_len h n
    rw [show hashL h (n + 1) = hstep h n (hashL h n) from rfl, hstep, getD_set _ _ _ _ (by omega)]
    split
    · rename_i e; rw [e]
    · exact hashL_get h n (by omega) i (by omega)
theorem hbyte_lt (h : List Nat) (i : Nat) : hbyte h i < 256 := Nat.mod_lt _ (by decide)

/-- What comes behind a text of n bytes. -/
def padL (n : Nat) : List UInt8 := 128 :: (List.replicate ((119 - n % 64) % 64) 0 ++ (List.range 8).map (fun j => UInt8.ofNat (8 * n / 2 ^ (8 * (7 - j)) % 256)))
def padded (s : List UInt8) : List UInt8 := s ++ padL s.length
def sumL (s : List UInt8) : List Nat := hashL (foldL H0 (padded s) ((padded s).length / 64)) 32

theorem padL_len (n : Nat) : (padL n).length = 9 + (119 - n % 64) % 64 := by simp [padL]; omega
theorem padded_len (s : List UInt8) : (padded s).length = s.length + 9 + (119 - s.length % 64) % 64 := by
  rw [padded, List.length_append, padL_len]; omega
theorem padded_mod (s : List UInt8) : (padded s).length % 64 = 0 := by rw [padded_len]; omega

set_option maxRecDepth 100000 in
theorem abc_sum : sumL [97, 98, 99] = [0xba, 0x78, 0x16, 0xbf, 0x8f, 0x01, 0xcf, 0xea, 0x41, 0x41, 0x40, 0xde, 0x5d, 0xae, 0x22, 0x23, 0xb0, 0x03, 0x61, 0xa3, 0x96, 0x17, 0x7a, 0x9c, 0xb4, 0x10, 0xff, 0x61, 0xf2, 0x00, 0x15, 0xad] := by
  decide +kernel

end Go.Proofs.YtnpgcgemifoddaaDoor
