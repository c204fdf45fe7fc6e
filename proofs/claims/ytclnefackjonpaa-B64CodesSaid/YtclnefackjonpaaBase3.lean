/- A text copied into a row of bytes; a byte as a number. -/
import Derived.Test.YtclnefackjonpaaBase2
namespace Go.Proofs.Ytclnefackjonpaa
open Go.RowKit

theorem run_copy_str (w : World) (ty : TypeId) (g o dLen dCap : Nat) (cur : Array Value) (t : TypeId) (s : List UInt8) (m : Nat) (hm : m = Nat.min s.length dLen)
    (hg : w.heap[g]? = some (.cells cur t (0, 0))) (hfit : o + m ≤ cur.size) :
    (Builtin.copy_ #[29, 9] ty #[.slice (some ⟨g, o, none⟩) dLen dCap, S s]).run Try.prog w =
      .ok (goInt m) (w.setRow g (cur.toList.take o ++ (s.take m).map B ++ cur.toList.drop (o + m)).toArray) := by
  have hl : ((s.take m).map B).length = m := by
    rw [List.length_map, List.length_take, hm]; exact Nat.min_eq_left (Nat.min_le_left _ _)
  have hst := run_storeCells_at Try.prog g o t ((s.take m).map B) 0 cur w hg (by rw [hl]; simpa using hfit) (fun v hv => by
    obtain ⟨b, _, rfl⟩ := List.mem_map.1 hv; rfl)
  rw [hl, Nat.add_zero] at hst
  have hu := Try.underlying29
  have hz := Try.sizeOf5
  have hlen : (⟨s.toArray⟩ : ByteArray).size = s.length := by simp [ByteArray.size]
  have hext : (((⟨s.toArray⟩ : ByteArray).extract 0 m).data.map fun b => Value.int .u8 (b.toNat : Int)).toList = (s.take m).map B := by
    rw [ByteArray.data_extract]
    simp
    rfl
  simp only [Builtin.copy_, S, Builtin.lenOf, Builtin.firstCells]
  simp only [List.getElem?_toArray, List.getElem?_cons_zero, List.getElem?_cons_succ, run_underlying hu, Sem.run_bind, Result.andThen_ok, Sem.run_pure, hz, hlen, ← hm, hext, hst]

/-- A part of at most three bytes, copied into three noughts that were just made. -/
theorem copy_part (w : World) (p : List UInt8) (hp : p.length ≤ 3) : ∃ x0 x1 x2 W1, n3 p = x0.toNat * 65536 + x1.toNat * 256 + x2.toNat ∧
    (Builtin.copy_ #[29, 9] 3 #[.slice (some ⟨w.heap.size, 0, none⟩) 3 3, S p]).run Try.prog (w.alloc (.cells #[.int .u8 0, .int .u8 0, .int .u8 0] 41)) = .ok (goInt p.length) W1 ∧
    Row W1 w.heap.size (bcells [x0, x1, x2]) 41 ∧ Below w.heap.size w W1 := by
  have hg := row_new w #[.int .u8 0, .int .u8 0, .int .u8 0] 41
  have hrun := run_copy_str _ 3 w.heap.size 0 3 3 _ 41 p p.length (Nat.min_eq_left hp).symm hg (by simpa using hp)
  have key : ∃ x0 x1 x2, n3 p = x0.toNat * 65536 + x1.toNat * 256 + x2.toNat ∧
      ((#[.int .u8 0, .int .u8 0, .int .u8 0] : Array Value).toList.take 0 ++ (p.take p.length).map B ++ (#[.int .u8 0, .int .u8 0, .int .u8 0] : Array Value).toList.drop (0 + p.length)).toArray = bcells [x0, x1, x2] := by
    clear hrun hg
    rcases p with _ | ⟨a, _ | ⟨b, _ | ⟨c, _ | ⟨d, r⟩⟩⟩⟩
    · exact ⟨0, 0, 0, by simp [n3], by simp [bcells, B]⟩
    · exact ⟨a, 0, 0, by simp [n3], by simp [bcells, B]⟩
    · exact ⟨a, b, 0, by simp [n3], by simp [bcells, B]⟩
    · exact ⟨a, b, c, by simp [n3], by simp [bcells]⟩
    · simp at hp
  obtain ⟨x0, x1, x2, hn, hc⟩ := key
  rw [hc] at hrun
  exact ⟨x0, x1, x2, _, hn, hrun, setRow_heap _ _ _ _ _ _ hg, ((Below.refl _ _).alloc (Nat.le_refl _) _).setRow (Nat.le_refl _) _⟩
theorem convB (b : UInt8) (w : World) : (convert 5 3 (B b)).run Try.prog w = .ok (.int .i64 (b.toNat : Int)) w := by
  have h1 := Try.underlying5
  have h2 := Try.underlying3
  have := b.toNat_lt
  have e : IntKind.i64.wrap (b.toNat : Int) = (b.toNat : Int) := by rw [IntKind.wrap_i64]; omega
  simp [convert, B, run_underlying h1, run_underlying h2, e, go_sem]
end Go.Proofs.Ytclnefackjonpaa
