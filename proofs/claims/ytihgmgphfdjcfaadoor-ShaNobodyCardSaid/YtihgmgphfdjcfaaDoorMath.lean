/- SHA-1 as plain functions of lists and words: what the walks come to. No program stands in it. -/
namespace Go.Proofs.YtihgmgphfdjcfaaDoor

/-- A word turned to the left. -/
def rot (x : UInt32) (n : Nat) : UInt32 := (x <<< UInt32.ofNat n) ||| (x >>> UInt32.ofNat (32 - n))
/-- The document's f of round t. -/
def fF (t : Nat) (b c d : UInt32) : UInt32 :=
  if t < 20 then (b &&& c) ^^^ (~~~b &&& d) else if t < 40 then b ^^^ c ^^^ d else if t < 60 then (b &&& c) ^^^ (b &&& d) ^^^ (c &&& d) else b ^^^ c ^^^ d
/-- The document's K of round t. -/
def kK (t : Nat) : UInt32 :=
  if t < 20 then 0x5a827999 else if t < 40 then 0x6ed9eba1 else if t < 60 then 0x8f1bbcdc else 0xca62c1d6

/-- The words of a block while its bytes are read, k of them so far. -/
def pw (bs : List UInt8) : Nat → List UInt32
  | 0 => List.replicate 80 0
  | k + 1 => (pw bs k).set (k / 4) ((((pw bs k)[k / 4]?.getD 0) <<< 8) ||| (bs[k]?.getD 0).toUInt32)
/-- The words from the seventeenth on, n of them so far. -/
def sq (L : List UInt32) : Nat → List UInt32
  | 0 => L
  | n + 1 => (sq L n).set (16 + n) (rot ((sq L n)[13 + n]?.getD 0 ^^^ (sq L n)[8 + n]?.getD 0 ^^^ (sq L n)[2 + n]?.getD 0 ^^^ (sq L n)[n]?.getD 0) 1)
def sched (bs : List UInt8) : List UInt32 := sq (pw bs 64) 64
theorem pw_length (bs : List UInt8) : ∀ k, (pw bs k).length = 80
  | 0 => by simp [pw]
  | k + 1 => by simp [pw, pw_length bs k]
theorem sq_length (L : List UInt32) : ∀ k, (sq L k).length = L.length
  | 0 => rfl
  | k + 1 => by simp [sq, sq_length L k]
theorem sched_length (bs : List UInt8) : (sched bs).length = 80 := by rw [sched, sq_length, pw_length]

/-- The sum's words as bytes, k of them so far. -/
def wbs (ws : List UInt32) : Nat → List UInt8
  | 0 => List.replicate 20 0
  | k + 1 => (wbs ws k).set k ((ws[k / 4]?.getD 0) >>> UInt32.ofNat (24 - 8 * (k % 4))).toUInt8
theorem wbs_length (ws : List UInt32) : ∀ k, (wbs ws k).length = 20
  | 0 => by simp [wbs]
  | k + 1 => by simp [wbs, wbs_length ws k]
/-- How many bits a text of n bytes has, in 8 bytes, k of them so far. -/
def lbs (n : Nat) : Nat → List UInt8
  | 0 => List.replicate 8 0
  | k + 1 => (lbs n k).set k (UInt8.ofNat (n * 8 / 2 ^ (56 - 8 * k)))
theorem lbs_length (n : Nat) : ∀ k, (lbs n k).length = 8
  | 0 => by simp [lbs]
  | k + 1 => by simp [lbs, lbs_length n k]

/-- c noughts. -/
def zs (c : Nat) : List UInt8 := List.replicate c 0
theorem zs_length (c : Nat) : (zs c).length = c := List.length_replicate
/-- What stands behind a text of n bytes. -/
def padL (n : Nat) : List UInt8 := (128 :: zs ((119 - n % 64) % 64)) ++ lbs n 8

/-- Five words. -/
structure S5 where
  a : UInt32
  b : UInt32
  c : UInt32
  d : UInt32
  e : UInt32
def S5.l (s : S5) : List UInt32 := [s.a, s.b, s.c, s.d, s.e]
/-- One round. -/
def rd1 (W : List UInt32) (t : Nat) (p : S5) : S5 :=
  ⟨rot p.a 5 + fF t p.b p.c p.d + p.e + kK t + W[t]?.getD 0, p.a, rot p.b 30, p.c, p.d⟩
/-- The first t rounds. -/
def rd (W : List UInt32) (s : S5) : Nat → S5
  | 0 => s
  | t + 1 => rd1 W t (rd W s t)
def S5.add (s p : S5) : S5 := ⟨s.a + p.a, s.b + p.b, s.c + p.c, s.d + p.d, s.e + p.e⟩
/-- A block's step, its words given. -/
def blkW (s : S5) (W : List UInt32) : S5 := s.add (rd W s 80)
/-- A block's step. -/
def blk (s : S5) (bs : List UInt8) : S5 := blkW s (sched bs)

end Go.Proofs.YtihgmgphfdjcfaaDoor
