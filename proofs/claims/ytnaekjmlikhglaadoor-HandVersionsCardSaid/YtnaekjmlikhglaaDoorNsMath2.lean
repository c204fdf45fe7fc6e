/- Texts of this proof, one behind the other. -/
/- SHA-1 as plain functions of lists and words: what the walks come to. No program stands in it. -/
namespace Go.Proofs.YtnaekjmlikhglaaDoor.sa

/-- A word turned to the left. -/
def rot (x : UInt32) (n : Nat) : UInt32 := (x <<< UInt32.ofNat n) ||| (x >>> UInt32.ofNat (32 - n))
/-- The document's f of round t. -/
def fF (t : Nat) (b c d : UInt32) : UInt32 :=
  if t < 20 then (b &&& c) ^^^ (~~~b &&& d) else if t < 40 then b ^^^ c ^^^ d else if t < 60 then (b &&& c) ^^^ (b &&& d) ^^^ (c &&& d) else b ^^^ c ^^^ d
/-- The document's K of round t. -/
def kK (t : Nat) : UInt32 :=
  if t < 20 then 0x5a827999 else if t < 40 then 0x6ed9eba1 else if t < 60 then 0x8f1bbcdc else 0xca62c1d6

/-- The words of a block while its bytes are read, k of them so far. -/
def pw (bs : List UInt8) : Nat → List UInt32
  | 0 => List.replicate 80 0
  | k + 1 => (pw bs k).set (k / 4) ((((pw bs k)[k / 4]?.getD 0) <<< 8) ||| (bs[k]?.getD 0).toUInt32)
/-- The words from the seventeenth on, n of them so far. -/
def sq (L : List UInt32) : Nat → List UInt32
  | 0 => L
  | n + 1 => (sq L n).set (16 + n) (rot ((sq L n)[13 + n]?.getD 0 ^^^ (sq L n)[8 + n]?.getD 0 ^^^ (sq L n)[2 + n]?.getD 0 ^^^ (sq L n)[n]?.getD 0) 1)
def sched (bs : List UInt8) : List UInt32 := sq (pw bs 64) 64
theorem pw_length (bs : List UInt8) : ∀ k, (pw bs k).length = 80
  | 0 => by simp [pw]
  | k + 1 => by simp [pw, pw_length bs k]
theorem sq_length (L : List UInt32) : ∀ k, (sq L k).length = L.length
  | 0 => rfl
  | k + 1 => by simp [sq, sq_length L k]
theorem sched_length (bs : List UInt8) : (sched bs).length = 80 := by rw [sched, sq_length, pw_length]

/-- The sum's words as bytes, k of them so far. -/
def wbs (ws : List UInt32) : Nat → List UInt8
  | 0 => List.replicate 20 0
  | k + 1 => (wbs ws k).set k ((ws[k / 4]?.getD 0) >>> UInt32.ofNat (24 - 8 * (k % 4))).toUInt8
theorem wbs_length (ws : List UInt32) : ∀ k, (wbs ws k).length = 20
  | 0 => by simp [wbs]
  | k + 1 => by simp [wbs, wbs_length ws k]
/-- How many bits a text of n bytes has, in 8 bytes, k of them so far. -/
def lbs (n : Nat) : Nat → List UInt8
  | 0 => List.replicate 8 0
  | k + 1 => (lbs n k).set k (UInt8.ofNat (n * 8 / 2 ^ (56 - 8 * k)))
theorem lbs_length (n : Nat) : ∀ k, (lbs n k).length = 8
  | 0 => by simp [lbs]
  | k + 1 => by simp [lbs, lbs_length n k]

/-- c noughts. -/
def zs (c : Nat) : List UInt8 := List.replicate c 0
theorem zs_length (c : Nat) : (zs c).length = c := List.length_replicate
/-- What stands behind a text of n bytes. -/
def padL (n : Nat) : List UInt8 := (128 :: zs ((119 - n % 64) % 64)) ++ lbs n 8

/-- Five words. -/
structure S5 where
  a : UInt32
  b : UInt32
  c : UInt32
  d : UInt32
  e : UInt32
def S5.l (s : S5) : List UInt32 := [s.a, s.b, s.c, s.d, s.e]
/-- One round. -/
def rd1 (W : List UInt32) (t : Nat) (p : S5) : S5 :=
  ⟨rot p.a 5 + fF t p.b p.c p.d + p.e + kK t + W[t]?.getD 0, p.a, rot p.b 30, p.c, p.d⟩
/-- The first t rounds. -/
def rd (W : List UInt32) (s : S5) : Nat → S5
  | 0 => s
  | t + 1 => rd1 W t (rd W s t)
def S5.add (s p : S5) : S5 := ⟨s.a + p.a, s.b + p.b, s.c + p.c, s.d + p.d, s.e + p.e⟩
/-- A block's step, its words given. -/
def blkW (s : S5) (W : List UInt32) : S5 := s.add (rd W s 80)
/-- A block's step. -/
def blk (s : S5) (bs : List UInt8) : S5 := blkW s (sched bs)

end Go.Proofs.YtnaekjmlikhglaaDoor.sa
/- SHA-1 in pieces, as plain functions: the state behind a text, and what a piece makes of it. -/
namespace Go.Proofs.YtnaekjmlikhglaaDoor.sa

/-- The words ahead of the first block. -/
def start5 : S5 := ⟨0x67452301, 0xefcdab89, 0x98badcfe, 0x10325476, 0xc3d2e1f0⟩
/-- The words behind the first k blocks of a text. -/
def hsh (t : List UInt8) : Nat → S5
  | 0 => start5
  | k + 1 => blk (hsh t k) ((t.drop (64 * k)).take 64)
theorem hsh_append (t s : List UInt8) : ∀ k, 64 * k ≤ t.length → hsh (t ++ s) k = hsh t k
  | 0, _ => rfl
  | k + 1, h => by
    have e : ((t ++ s).drop (64 * k)).take 64 = (t.drop (64 * k)).take 64 := by
      rw [List.drop_append_of_le_length (by omega), List.take_append_of_le_length (by rw [List.length_drop]; omega)]
    rw [hsh, hsh, hsh_append t s k (by omega), e]

/-- The state behind a text: the words behind its whole blocks; the begun block's bytes. -/
structure Inv (t : List UInt8) (ws : S5) (bg : List UInt8) : Prop where
  words : ws = hsh t (t.length / 64)
  len : bg.length = 64
  begun : bg.take (t.length % 64) = t.drop (64 * (t.length / 64))

/-- The begun block behind a piece of m bytes that is put at 'at'. -/
def put (bg r : List UInt8) (i m : Nat) : List UInt8 := bg.take i ++ r.take m ++ bg.drop (i + m)
theorem put_length (bg r : List UInt8) (i m : Nat) (h : bg.length = 64) (hi : i + m ≤ 64) (hm : m ≤ r.length) : (put bg r i m).length = 64 := by
  simp only [put, List.length_append, List.length_take, List.length_drop]; omega

theorem inv_put {t : List UInt8} {ws : S5} {bg : List UInt8} (h : Inv t ws bg) (r : List UInt8) (m : Nat) (hm : m ≤ r.length) :
    (put bg r (t.length % 64) m).take (t.length % 64 + m) = (t ++ r.take m).drop (64 * (t.length / 64)) := by
  have e1 : (bg.take (t.length % 64) ++ r.take m).length = t.length % 64 + m := by
    rw [List.length_append, List.length_take, List.length_take, h.len]; omega
  rw [put, List.take_append_of_le_length (by omega), List.take_of_length_le (by omega), h.begun, List.drop_append_of_le_length (by omega)]

theorem inv_less {t : List UInt8} {ws : S5} {bg : List UInt8} (h : Inv t ws bg) (r : List UInt8) (m : Nat) (hm : m ≤ r.length) (hi : t.length % 64 + m < 64) :
    Inv (t ++ r.take m) ws (put bg r (t.length % 64) m) := by
  have hl : (t ++ r.take m).length = t.length + m := by rw [List.length_append, List.length_take]; omega
  have hq : (t ++ r.take m).length / 64 = t.length / 64 := by rw [hl]; omega
  have hr : (t ++ r.take m).length % 64 = t.length % 64 + m := by rw [hl]; omega
  refine ⟨?_, put_length _ _ _ _ h.len (by omega) hm, ?_⟩
  · rw [hq, hsh_append _ _ _ (by omega)]; exact h.words
  · rw [hq, hr]; exact inv_put h r m hm

theorem inv_full {t : List UInt8} {ws : S5} {bg : List UInt8} (h : Inv t ws bg) (r : List UInt8) (m : Nat) (hm : m ≤ r.length) (hi : t.length % 64 + m = 64) :
    Inv (t ++ r.take m) (blk ws (put bg r (t.length % 64) m)) (put bg r (t.length % 64) m) := by
  have hl : (t ++ r.take m).length = t.length + m := by rw [List.length_append, List.length_take]; omega
  have hq : (t ++ r.take m).length / 64 = t.length / 64 + 1 := by rw [hl]; omega
  have hr : (t ++ r.take m).length % 64 = 0 := by rw [hl]; omega
  have hp := put_length bg r (t.length % 64) m h.len (by omega) hm
  have hb := inv_put h r m hm
  rw [hi, List.take_of_length_le (by omega)] at hb
  refine ⟨?_, hp, ?_⟩
  · rw [hq, hsh, hsh_append _ _ _ (by omega), ← h.words, ← hb, List.take_of_length_le (by omega)]
  · rw [hq, hr, List.take_zero, List.drop_of_length_le (by rw [hl]; omega)]

theorem inv_start (bg : List UInt8) (h : bg.length = 64) : Inv [] start5 bg := ⟨rfl, h, by simp⟩

/-- A text with what stands behind it. -/
def full (t : List UInt8) : List UInt8 := t ++ padL t.length
theorem padL_length (n : Nat) : (padL n).length = (119 - n % 64) % 64 + 9 := by
  rw [padL, List.length_append, lbs_length, List.length_cons, zs_length]
theorem full_mod (t : List UInt8) : (full t).length % 64 = 0 := by
  rw [full, List.length_append, padL_length]; omega
/-- The sum. -/
def shaL (t : List UInt8) : List UInt8 := wbs (hsh (full t) ((full t).length / 64)).l 20

theorem sha_abc : shaL [97, 98, 99] = [169, 153, 62, 54, 71, 6, 129, 106, 186, 62, 37, 113, 120, 80, 194, 108, 156, 208, 216, 157] := by
  decide +kernel

theorem sha_none : shaL [] = [218, 57, 163, 238, 94, 107, 75, 13, 50, 85, 191, 239, 149, 96, 24, 144, 175, 216, 7, 9] := by
  decide +kernel
/-- The chapter's third text. -/
def text3 : List UInt8 := [97, 98, 99, 100, 98, 99, 100, 101, 99, 100, 101, 102, 100, 101, 102, 103, 101, 102, 103, 104, 102, 103, 104, 105, 103, 104, 105, 106, 104, 105, 106, 107, 105, 106, 107, 108, 106, 107, 108, 109, 107, 108, 109, 110, 108, 109, 110, 111, 109, 110, 111, 112, 110, 111, 112, 113]
theorem sha_text3 : shaL text3 = [132, 152, 62, 68, 28, 59, 210, 110, 186, 174, 74, 161, 249, 81, 41, 229, 229, 70, 112, 241] := by
  decide +kernel

end Go.Proofs.YtnaekjmlikhglaaDoor.sa
