/- The document's own way, bit by bit, as plain functions: it comes to the same letters and texts. -/
import Derived.Test.YtclnefackjonpaaMath2
namespace Go.Proofs.Ytclnefackjonpaa

/-- The number of bits, the first one the highest. -/
def hor (l : List Nat) : Nat := l.foldl (fun n b => 2 * n + b) 0
theorem hor_snoc (l : List Nat) (b : Nat) : hor (l ++ [b]) = 2 * hor l + b := by simp [hor]
theorem hor_app : ∀ (l : List Nat) (n : Nat), (∀ b ∈ l, b ≤ 1) → l.foldl (fun n b => 2 * n + b) n < (n + 1) * 2 ^ l.length
  | [], n, _ => by simp
  | b :: r, n, h => by
    have h1 := h b (by simp)
    have ih := hor_app r (2 * n + b) (fun x hx => h x (by simp [hx]))
    rw [List.foldl_cons, List.length_cons, Nat.pow_succ]
    refine Nat.lt_of_lt_of_le ih ?_
    have : 2 * n + b + 1 ≤ (n + 1) * 2 := by omega
    calc (2 * n + b + 1) * 2 ^ r.length ≤ (n + 1) * 2 * 2 ^ r.length := Nat.mul_le_mul_right _ this
      _ = (n + 1) * (2 ^ r.length * 2) := by rw [Nat.mul_assoc, Nat.mul_comm 2]
theorem hor_lt (l : List Nat) (h : ∀ b ∈ l, b ≤ 1) : hor l < 2 ^ l.length := by
  have := hor_app l 0 h
  simpa [hor] using this
/-- The first j of a number's t bits. -/
def bn (x t : Nat) : Nat → List Nat
  | 0 => []
  | j + 1 => bn x t j ++ [x / 2 ^ (t - 1 - j) % 2]
theorem bn_length (x t : Nat) : ∀ j, (bn x t j).length = j
  | 0 => rfl
  | j + 1 => by rw [bn, List.length_append, bn_length x t j]; rfl
theorem bn_le (x t : Nat) : ∀ j, ∀ b ∈ bn x t j, b ≤ 1
  | 0, b, h => by simp [bn] at h
  | j + 1, b, h => by
    rw [bn, List.mem_append, List.mem_singleton] at h
    rcases h with h | rfl
    · exact bn_le x t j b h
    · omega
/-- The bits of bytes. -/
def bs (l : List UInt8) : List Nat := l.flatMap fun c => bn c.toNat 8 8
theorem bs_snoc (l : List UInt8) (c : UInt8) : bs (l ++ [c]) = bs l ++ bn c.toNat 8 8 := by simp [bs]
theorem bs_length : ∀ l : List UInt8, (bs l).length = 8 * l.length
  | [] => rfl
  | c :: r => by
    have := bs_length r
    unfold bs at this ⊢
    rw [List.flatMap_cons, List.length_append, bn_length, this, List.length_cons]; omega
theorem bs_le (l : List UInt8) : ∀ b ∈ bs l, b ≤ 1 := fun b h => by
  obtain ⟨c, _, hb⟩ := List.mem_flatMap.1 h
  exact bn_le _ _ _ b hb
/-- The bits of letters. -/
def num (c : UInt8) : Nat := (numO c).getD 0
def bl (l : List UInt8) : List Nat := l.flatMap fun c => bn (num c) 6 6
theorem bl_snoc (l : List UInt8) (c : UInt8) : bl (l ++ [c]) = bl l ++ bn (num c) 6 6 := by simp [bl]
theorem bl_length : ∀ l : List UInt8, (bl l).length = 6 * l.length
  | [] => rfl
  | c :: r => by
    have := bl_length r
    unfold bl at this ⊢
    rw [List.flatMap_cons, List.length_append, bn_length, this, List.length_cons]; omega
theorem bl_le (l : List UInt8) : ∀ b ∈ bl l, b ≤ 1 := fun b h => by
  obtain ⟨c, _, hb⟩ := List.mem_flatMap.1 h
  exact bn_le _ _ _ b hb

/-- Six bits make a letter. -/
def sx : List Nat → List UInt8
  | a :: b :: c :: d :: e :: f :: r => ltr (hor [a, b, c, d, e, f]) :: sx r
  | _ => []
/-- Eight bits make a byte. -/
def oc : List Nat → List UInt8
  | a :: b :: c :: d :: e :: f :: g :: h :: r => UInt8.ofNat (hor [a, b, c, d, e, f, g, h]) :: oc r
  | _ => []
theorem sx_cons (a b c d e f : Nat) (r : List Nat) : sx (a :: b :: c :: d :: e :: f :: r) = ltr (hor [a, b, c, d, e, f]) :: sx r := by rw [sx]
theorem oc_cons (a b c d e f g h : Nat) (r : List Nat) : oc (a :: b :: c :: d :: e :: f :: g :: h :: r) = UInt8.ofNat (hor [a, b, c, d, e, f, g, h]) :: oc r := by rw [oc]
theorem sx_take : ∀ (m : Nat) (l : List Nat), 6 * m + 6 ≤ l.length → sx (l.take (6 * (m + 1))) = sx (l.take (6 * m)) ++ [ltr (hor ((l.drop (6 * m)).take 6))]
  | 0, a :: b :: c :: d :: e :: f :: r, _ => by simp [sx]
  | m + 1, a :: b :: c :: d :: e :: f :: r, h => by
    have ih := sx_take m r (by simp only [List.length_cons] at h; omega)
    rw [show 6 * (m + 1 + 1) = 6 * (m + 1) + 6 by omega, show 6 * (m + 1) = 6 * m + 6 by omega]
    rw [show 6 * (m + 1) = 6 * m + 6 by omega] at ih
    simp only [List.take_succ_cons, List.drop_succ_cons]
    rw [sx_cons, sx_cons, ih]
    rfl
  | _, [], h => by simp at h
  | _, [_], h => by simp at h
  | _, [_, _], h => by simp at h
  | _, [_, _, _], h => by simp at h
  | _, [_, _, _, _], h => by simp at h
  | _, [_, _, _, _, _], h => by simp at h
theorem oc_take : ∀ (m : Nat) (l : List Nat), 8 * m + 8 ≤ l.length → oc (l.take (8 * (m + 1))) = oc (l.take (8 * m)) ++ [UInt8.ofNat (hor ((l.drop (8 * m)).take 8))]
  | 0, a :: b :: c :: d :: e :: f :: g :: h :: r, _ => by simp [oc]
  | m + 1, a :: b :: c :: d :: e :: f :: g :: h :: r, hl => by
    have ih := oc_take m r (by simp only [List.length_cons] at hl; omega)
    rw [show 8 * (m + 1 + 1) = 8 * (m + 1) + 8 by omega, show 8 * (m + 1) = 8 * m + 8 by omega]
    rw [show 8 * (m + 1) = 8 * m + 8 by omega] at ih
    simp only [List.take_succ_cons, List.drop_succ_cons]
    rw [oc_cons, oc_cons, ih]
    rfl
  | _, [], h => by simp at h
  | _, [_], h => by simp at h
  | _, [_, _], h => by simp at h
  | _, [_, _, _], h => by simp at h
  | _, [_, _, _, _], h => by simp at h
  | _, [_, _, _, _, _], h => by simp at h
  | _, [_, _, _, _, _, _], h => by simp at h
  | _, [_, _, _, _, _, _, _], h => by simp at h
theorem oc_end : ∀ (l : List Nat), oc (l.take (8 * (l.length / 8))) = oc l
  | a :: b :: c :: d :: e :: f :: g :: h :: r => by
    rw [show 8 * ((a :: b :: c :: d :: e :: f :: g :: h :: r).length / 8) = 8 * (r.length / 8) + 8 by simp only [List.length_cons]; omega]
    simp only [List.take_succ_cons]
    rw [oc_cons, oc_cons, oc_end r]
  | [] => rfl
  | [_] => by simp [oc]
  | [_, _] => by simp [oc]
  | [_, _, _] => by simp [oc]
  | [_, _, _, _] => by simp [oc]
  | [_, _, _, _, _] => by simp [oc]
  | [_, _, _, _, _, _] => by simp [oc]
  | [_, _, _, _, _, _, _] => by simp [oc]

theorem sx_length : ∀ l : List Nat, (sx l).length ≤ l.length
  | a :: b :: c :: d :: e :: f :: r => by
    have := sx_length r
    rw [sx_cons]; simp only [List.length_cons]; omega
  | [] => by simp [sx]
  | [_] => by simp [sx]
  | [_, _] => by simp [sx]
  | [_, _, _] => by simp [sx]
  | [_, _, _, _] => by simp [sx]
  | [_, _, _, _, _] => by simp [sx]
theorem oc_length : ∀ l : List Nat, (oc l).length ≤ l.length / 8
  | a :: b :: c :: d :: e :: f :: g :: h :: r => by
    have := oc_length r
    rw [oc_cons]; simp only [List.length_cons]; omega
  | [] => by simp [oc]
  | [_] => by simp [oc]
  | [_, _] => by simp [oc]
  | [_, _, _] => by simp [oc]
  | [_, _, _, _] => by simp [oc]
  | [_, _, _, _, _] => by simp [oc]
  | [_, _, _, _, _, _] => by simp [oc]
  | [_, _, _, _, _, _, _] => by simp [oc]
/-- Noughts more, till there are a multiple of six. -/
def p6 (l : List Nat) : List Nat := l ++ List.replicate ((6 - l.length % 6) % 6) 0
/-- Fillers more, till there are a multiple of four. -/
def p4 (l : List UInt8) : List UInt8 := l ++ List.replicate ((4 - l.length % 4) % 4) 61
def renc (s : List UInt8) : List UInt8 := p4 (sx (p6 (bs s)))

theorem bs_cons (c : UInt8) (r : List UInt8) : bs (c :: r) = bn c.toNat 8 8 ++ bs r := by simp [bs]
theorem bl_cons (c : UInt8) (r : List UInt8) : bl (c :: r) = bn (num c) 6 6 ++ bl r := by simp [bl]
theorem bn8 (x : Nat) : bn x 8 8 = [x / 128 % 2, x / 64 % 2, x / 32 % 2, x / 16 % 2, x / 8 % 2, x / 4 % 2, x / 2 % 2, x % 2] := by
  simp [bn]
theorem bn6 (x : Nat) : bn x 6 6 = [x / 32 % 2, x / 16 % 2, x / 8 % 2, x / 4 % 2, x / 2 % 2, x % 2] := by
  simp [bn]

theorem six1 (x : Nat) (h : x < 256) : hor [x / 128 % 2, x / 64 % 2, x / 32 % 2, x / 16 % 2, x / 8 % 2, x / 4 % 2] = x / 4 := by
  simp only [hor, List.foldl_cons, List.foldl_nil]; omega
theorem six2 (x y : Nat) (h : y < 256) : hor [x / 2 % 2, x % 2, y / 128 % 2, y / 64 % 2, y / 32 % 2, y / 16 % 2] = x % 4 * 16 + y / 16 := by
  simp only [hor, List.foldl_cons, List.foldl_nil]; omega
theorem six2' (x : Nat) : hor [x / 2 % 2, x % 2, 0, 0, 0, 0] = x % 4 * 16 := by
  simp only [hor, List.foldl_cons, List.foldl_nil]; omega
theorem six3 (y z : Nat) (h : z < 256) : hor [y / 8 % 2, y / 4 % 2, y / 2 % 2, y % 2, z / 128 % 2, z / 64 % 2] = y % 16 * 4 + z / 64 := by
  simp only [hor, List.foldl_cons, List.foldl_nil]; omega
theorem six3' (y : Nat) : hor [y / 8 % 2, y / 4 % 2, y / 2 % 2, y % 2, 0, 0] = y % 16 * 4 := by
  simp only [hor, List.foldl_cons, List.foldl_nil]; omega
theorem six4 (z : Nat) : hor [z / 32 % 2, z / 16 % 2, z / 8 % 2, z / 4 % 2, z / 2 % 2, z % 2] = z % 64 := by
  simp only [hor, List.foldl_cons, List.foldl_nil]; omega

theorem p6_append (a l : List Nat) (h : a.length % 6 = 0) : p6 (a ++ l) = a ++ p6 l := by
  unfold p6
  rw [List.append_assoc, List.length_append, show (a.length + l.length) % 6 = l.length % 6 by omega]
theorem p4_append (a l : List UInt8) (h : a.length % 4 = 0) : p4 (a ++ l) = a ++ p4 l := by
  unfold p4
  rw [List.append_assoc, List.length_append, show (a.length + l.length) % 4 = l.length % 4 by omega]

theorem quad3 (x y z : UInt8) : quad [x, y, z] = [ltr (x.toNat / 4), ltr (x.toNat % 4 * 16 + y.toNat / 16), ltr (y.toNat % 16 * 4 + z.toNat / 64), ltr (z.toNat % 64)] := by
  have hx := x.toNat_lt
  have hy := y.toNat_lt
  have hz := z.toNat_lt
  have e : quad [x, y, z] = [ltr ((x.toNat * 65536 + y.toNat * 256 + z.toNat) / 262144 % 64), ltr ((x.toNat * 65536 + y.toNat * 256 + z.toNat) / 4096 % 64), ltr ((x.toNat * 65536 + y.toNat * 256 + z.toNat) / 64 % 64), ltr ((x.toNat * 65536 + y.toNat * 256 + z.toNat) % 64)] := by
    simp [quad_eq, qd, n3]
  rw [e, show (x.toNat * 65536 + y.toNat * 256 + z.toNat) / 262144 % 64 = x.toNat / 4 by omega, show (x.toNat * 65536 + y.toNat * 256 + z.toNat) / 4096 % 64 = x.toNat % 4 * 16 + y.toNat / 16 by omega,
    show (x.toNat * 65536 + y.toNat * 256 + z.toNat) / 64 % 64 = y.toNat % 16 * 4 + z.toNat / 64 by omega, show (x.toNat * 65536 + y.toNat * 256 + z.toNat) % 64 = z.toNat % 64 by omega]
theorem quad2 (x y : UInt8) : quad [x, y] = [ltr (x.toNat / 4), ltr (x.toNat % 4 * 16 + y.toNat / 16), ltr (y.toNat % 16 * 4), 61] := by
  have hx := x.toNat_lt
  have hy := y.toNat_lt
  have e : quad [x, y] = [ltr ((x.toNat * 65536 + y.toNat * 256) / 262144 % 64), ltr ((x.toNat * 65536 + y.toNat * 256) / 4096 % 64), ltr ((x.toNat * 65536 + y.toNat * 256) / 64 % 64), 61] := by
    simp [quad_eq, qd, n3]
  rw [e, show (x.toNat * 65536 + y.toNat * 256) / 262144 % 64 = x.toNat / 4 by omega, show (x.toNat * 65536 + y.toNat * 256) / 4096 % 64 = x.toNat % 4 * 16 + y.toNat / 16 by omega,
    show (x.toNat * 65536 + y.toNat * 256) / 64 % 64 = y.toNat % 16 * 4 by omega]
theorem quad1 (x : UInt8) : quad [x] = [ltr (x.toNat / 4), ltr (x.toNat % 4 * 16), 61, 61] := by
  have hx := x.toNat_lt
  have e : quad [x] = [ltr (x.toNat * 65536 / 262144 % 64), ltr (x.toNat * 65536 / 4096 % 64), 61, 61] := by
    simp [quad_eq, qd, n3]
  rw [e, show x.toNat * 65536 / 262144 % 64 = x.toNat / 4 by omega, show x.toNat * 65536 / 4096 % 64 = x.toNat % 4 * 16 by omega]

theorem renc_eq : ∀ s : List UInt8, renc s = enc s
  | [] => rfl
  | [x] => by
    have hx := x.toNat_lt
    rw [enc, quad1, renc, bs_cons, bn8]
    have e : p6 ([x.toNat / 128 % 2, x.toNat / 64 % 2, x.toNat / 32 % 2, x.toNat / 16 % 2, x.toNat / 8 % 2, x.toNat / 4 % 2, x.toNat / 2 % 2, x.toNat % 2] ++ bs []) =
        [x.toNat / 128 % 2, x.toNat / 64 % 2, x.toNat / 32 % 2, x.toNat / 16 % 2, x.toNat / 8 % 2, x.toNat / 4 % 2, x.toNat / 2 % 2, x.toNat % 2, 0, 0, 0, 0] := by simp [p6, bs, List.replicate]
    rw [e, sx_cons, sx_cons, six1 _ hx, six2']
    rfl
  | [x, y] => by
    have hx := x.toNat_lt
    have hy := y.toNat_lt
    rw [enc, quad2, renc, bs_cons, bs_cons, bn8, bn8]
    have e : p6 ([x.toNat / 128 % 2, x.toNat / 64 % 2, x.toNat / 32 % 2, x.toNat / 16 % 2, x.toNat / 8 % 2, x.toNat / 4 % 2, x.toNat / 2 % 2, x.toNat % 2] ++
        ([y.toNat / 128 % 2, y.toNat / 64 % 2, y.toNat / 32 % 2, y.toNat / 16 % 2, y.toNat / 8 % 2, y.toNat / 4 % 2, y.toNat / 2 % 2, y.toNat % 2] ++ bs [])) =
        [x.toNat / 128 % 2, x.toNat / 64 % 2, x.toNat / 32 % 2, x.toNat / 16 % 2, x.toNat / 8 % 2, x.toNat / 4 % 2, x.toNat / 2 % 2, x.toNat % 2,
          y.toNat / 128 % 2, y.toNat / 64 % 2, y.toNat / 32 % 2, y.toNat / 16 % 2, y.toNat / 8 % 2, y.toNat / 4 % 2, y.toNat / 2 % 2, y.toNat % 2, 0, 0] := by simp [p6, bs, List.replicate]
    rw [e, sx_cons, sx_cons, sx_cons, six1 _ hx, six2 _ _ hy, six3']
    rfl
  | x :: y :: z :: r => by
    have hx := x.toNat_lt
    have hy := y.toNat_lt
    have hz := z.toNat_lt
    have ih := renc_eq r
    rw [enc3, quad3, ← ih, renc, bs_cons, bs_cons, bs_cons, bn8, bn8, bn8]
    have e : ([x.toNat / 128 % 2, x.toNat / 64 % 2, x.toNat / 32 % 2, x.toNat / 16 % 2, x.toNat / 8 % 2, x.toNat / 4 % 2, x.toNat / 2 % 2, x.toNat % 2] ++
        ([y.toNat / 128 % 2, y.toNat / 64 % 2, y.toNat / 32 % 2, y.toNat / 16 % 2, y.toNat / 8 % 2, y.toNat / 4 % 2, y.toNat / 2 % 2, y.toNat % 2] ++
        ([z.toNat / 128 % 2, z.toNat / 64 % 2, z.toNat / 32 % 2, z.toNat / 16 % 2, z.toNat / 8 % 2, z.toNat / 4 % 2, z.toNat / 2 % 2, z.toNat % 2] ++ bs r))) =
        [x.toNat / 128 % 2, x.toNat / 64 % 2, x.toNat / 32 % 2, x.toNat / 16 % 2, x.toNat / 8 % 2, x.toNat / 4 % 2, x.toNat / 2 % 2, x.toNat % 2,
          y.toNat / 128 % 2, y.toNat / 64 % 2, y.toNat / 32 % 2, y.toNat / 16 % 2, y.toNat / 8 % 2, y.toNat / 4 % 2, y.toNat / 2 % 2, y.toNat % 2,
          z.toNat / 128 % 2, z.toNat / 64 % 2, z.toNat / 32 % 2, z.toNat / 16 % 2, z.toNat / 8 % 2, z.toNat / 4 % 2, z.toNat / 2 % 2, z.toNat % 2] ++ bs r := rfl
    rw [e, p6_append _ _ (by simp)]
    simp only [List.cons_append, List.nil_append]
    rw [sx_cons, sx_cons, sx_cons, sx_cons, six1 _ hx, six2 _ _ hy, six3 _ _ hz, six4]
    exact p4_append [ltr (x.toNat / 4), ltr (x.toNat % 4 * 16 + y.toNat / 16), ltr (y.toNat % 16 * 4 + z.toNat / 64), ltr (z.toNat % 64)] _ (by simp)
end Go.Proofs.Ytclnefackjonpaa
