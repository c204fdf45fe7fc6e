/- ChainKnown (stage 13) walked, over any package of chains. (mkkx.py writes it.) -/
import Derived.Test.YtbnlkjoblngakaaDoorKd
namespace Go.Proofs.YtbnlkjoblngakaaDoor
open Go.RowKit Go.Shelf
attribute [local go_sem] store_one S_match S_store

/-- The chapter's steps and fields in their boxes. -/
structure VarsAt (w X : World) : Prop where
  r0 : Row X (w.heap.size) #[.int .i64 1, .string ⟨#[65]⟩, .string ⟨#[49]⟩, .int .i64 0] 35
  r1 : Row X (w.heap.size + 1) #[.int .i64 1, .string ⟨#[66]⟩, .string ⟨#[50]⟩, .int .i64 0] 35
  r2 : Row X (w.heap.size + 1 + 1) #[.int .i64 2, .string ⟨#[75]⟩, .string ⟨#[118]⟩, .int .i64 0] 35
  r3 : Row X (w.heap.size + 1 + 1 + 1) #[.int .i64 4, .string ⟨#[]⟩, .string ⟨#[47, 97, 112, 105]⟩, .int .i64 0] 35
  r4 : Row X (w.heap.size + 1 + 1 + 1 + 1) #[.string ⟨#[65]⟩, .string ⟨#[49]⟩] 53
  r5 : Row X (w.heap.size + 1 + 1 + 1 + 1 + 1) #[.string ⟨#[66]⟩, .string ⟨#[50]⟩] 53
  bel : Below w.heap.size w X
theorem VarsAt.below {w X Y : World} (h : VarsAt w X) (hb : Below X.heap.size X Y) : VarsAt w Y :=
  ⟨h.r0.below hb h.r0.lt, h.r1.below hb h.r1.lt, h.r2.below hb h.r2.lt, h.r3.below hb h.r3.lt, h.r4.below hb h.r4.lt, h.r5.below hb h.r5.lt, h.bel.trans (hb.mono h.bel.size)⟩
theorem vars_new (w : World) : VarsAt w ((((((w.alloc (.cells #[.int .i64 1, .string ⟨#[65]⟩, .string ⟨#[49]⟩, .int .i64 0] 35)).alloc (.cells #[.int .i64 1, .string ⟨#[66]⟩, .string ⟨#[50]⟩, .int .i64 0] 35)).alloc (.cells #[.int .i64 2, .string ⟨#[75]⟩, .string ⟨#[118]⟩, .int .i64 0] 35)).alloc (.cells #[.int .i64 4, .string ⟨#[]⟩, .string ⟨#[47, 97, 112, 105]⟩, .int .i64 0] 35)).alloc (.cells #[.string ⟨#[65]⟩, .string ⟨#[49]⟩] 53)).alloc (.cells #[.string ⟨#[66]⟩, .string ⟨#[50]⟩] 53)) := by
  have r0 := row_new w #[.int .i64 1, .string ⟨#[65]⟩, .string ⟨#[49]⟩, .int .i64 0] 35
  have r1 := row_new (w.alloc (.cells #[.int .i64 1, .string ⟨#[65]⟩, .string ⟨#[49]⟩, .int .i64 0] 35)) #[.int .i64 1, .string ⟨#[66]⟩, .string ⟨#[50]⟩, .int .i64 0] 35
  rw [alloc_size] at r1
  have r2 := row_new ((w.alloc (.cells #[.int .i64 1, .string ⟨#[65]⟩, .string ⟨#[49]⟩, .int .i64 0] 35)).alloc (.cells #[.int .i64 1, .string ⟨#[66]⟩, .string ⟨#[50]⟩, .int .i64 0] 35)) #[.int .i64 2, .string ⟨#[75]⟩, .string ⟨#[118]⟩, .int .i64 0] 35
  rw [alloc_size, alloc_size] at r2
  have r3 := row_new (((w.alloc (.cells #[.int .i64 1, .string ⟨#[65]⟩, .string ⟨#[49]⟩, .int .i64 0] 35)).alloc (.cells #[.int .i64 1, .string ⟨#[66]⟩, .string ⟨#[50]⟩, .int .i64 0] 35)).alloc (.cells #[.int .i64 2, .string ⟨#[75]⟩, .string ⟨#[118]⟩, .int .i64 0] 35)) #[.int .i64 4, .string ⟨#[]⟩, .string ⟨#[47, 97, 112, 105]⟩, .int .i64 0] 35
  rw [alloc_size, alloc_size, alloc_size] at r3
  have r4 := row_new ((((w.alloc (.cells #[.int .i64 1, .string ⟨#[65]⟩, .string ⟨#[49]⟩, .int .i64 0] 35)).alloc (.cells #[.int .i64 1, .string ⟨#[66]⟩, .string ⟨#[50]⟩, .int .i64 0] 35)).alloc (.cells #[.int .i64 2, .string ⟨#[75]⟩, .string ⟨#[118]⟩, .int .i64 0] 35)).alloc (.cells #[.int .i64 4, .string ⟨#[]⟩, .string ⟨#[47, 97, 112, 105]⟩, .int .i64 0] 35)) #[.string ⟨#[65]⟩, .string ⟨#[49]⟩] 53
  rw [alloc_size, alloc_size, alloc_size, alloc_size] at r4
  have r5 := row_new (((((w.alloc (.cells #[.int .i64 1, .string ⟨#[65]⟩, .string ⟨#[49]⟩, .int .i64 0] 35)).alloc (.cells #[.int .i64 1, .string ⟨#[66]⟩, .string ⟨#[50]⟩, .int .i64 0] 35)).alloc (.cells #[.int .i64 2, .string ⟨#[75]⟩, .string ⟨#[118]⟩, .int .i64 0] 35)).alloc (.cells #[.int .i64 4, .string ⟨#[]⟩, .string ⟨#[47, 97, 112, 105]⟩, .int .i64 0] 35)).alloc (.cells #[.string ⟨#[65]⟩, .string ⟨#[49]⟩] 53)) #[.string ⟨#[66]⟩, .string ⟨#[50]⟩] 53
  rw [alloc_size, alloc_size, alloc_size, alloc_size, alloc_size] at r5
  exact ⟨(((((r0.alloc _).alloc _).alloc _).alloc _).alloc _), ((((r1.alloc _).alloc _).alloc _).alloc _), (((r2.alloc _).alloc _).alloc _), ((r3.alloc _).alloc _), (r4.alloc _), r5, by
    refine Below.alloc ?_ (by simp only [alloc_size]; omega) _
    refine Below.alloc ?_ (by simp only [alloc_size]; omega) _
    refine Below.alloc ?_ (by simp only [alloc_size]; omega) _
    refine Below.alloc ?_ (by simp only [alloc_size]; omega) _
    refine Below.alloc ?_ (by simp only [alloc_size]; omega) _
    exact (Below.refl _ w).alloc (Nat.le_refl _) _⟩
def kxRows : List (List Stp × Rq × (Nat × Tx × Fds)) := [([⟨1, [65], [49], 0⟩, ⟨1, [66], [50], 0⟩], ⟨[], [47, 120], [], 0, [], [], false⟩, (200, [47, 120], [([66], [50]), ([65], [49])])), ([⟨2, [75], [118], 0⟩, ⟨1, [65], [49], 0⟩], ⟨[], [47, 120], [], 0, [([107], [118])], [], false⟩, (200, [47, 120], [([65], [49])])), ([⟨2, [75], [118], 0⟩, ⟨1, [65], [49], 0⟩], ⟨[], [47, 120], [], 0, [([75], [119]), ([107], [118])], [], false⟩, (403, [102, 111, 114, 98, 105, 100, 100, 101, 110], [])), ([⟨2, [75], [118], 0⟩, ⟨1, [65], [49], 0⟩], ⟨[], [47, 120], [], 0, [], [], false⟩, (403, [102, 111, 114, 98, 105, 100, 100, 101, 110], [])), ([⟨1, [65], [49], 0⟩, ⟨4, [], [47, 97, 112, 105], 0⟩], ⟨[], [47, 97, 112, 105, 47, 120], [], 0, [], [], false⟩, (200, [47, 120], [([65], [49])])), ([⟨1, [65], [49], 0⟩, ⟨4, [], [47, 97, 112, 105], 0⟩], ⟨[], [47, 97, 112, 105], [], 0, [], [], false⟩, (200, [47], [([65], [49])])), ([⟨1, [65], [49], 0⟩, ⟨4, [], [47, 97, 112, 105], 0⟩], ⟨[], [47, 97, 112, 105, 120], [], 0, [], [], false⟩, (404, [110, 111, 116, 32, 102, 111, 117, 110, 100], [([65], [49])])), ([⟨3, [], [], 2⟩, ⟨1, [65], [49], 0⟩], ⟨[], [47, 120], [], 0, [], [97, 98, 99], false⟩, (413, [116, 111, 111, 32, 108, 111, 110, 103], [])), ([⟨3, [], [], 3⟩, ⟨1, [65], [49], 0⟩], ⟨[], [47, 120], [], 0, [], [97, 98, 99], false⟩, (200, [47, 120], [([65], [49])])), ([⟨5, [70, 114, 111, 109], [88, 45, 87, 104, 111], 0⟩], ⟨[], [47, 120], [], 0, [([70, 82, 79, 77], [109, 101])], [], false⟩, (200, [47, 120], [([88, 45, 87, 104, 111], [109, 101])])), ([⟨5, [70, 114, 111, 109], [88, 45, 87, 104, 111], 0⟩], ⟨[], [47, 120], [], 0, [], [], false⟩, (200, [47, 120], [([88, 45, 87, 104, 111], [45])])), ([], ⟨[], [47, 120], [], 0, [], [], false⟩, (200, [47, 120], []))]
def kxBad : List Stp := [⟨0, [], [], 0⟩, ⟨6, [], [], 0⟩, ⟨1, [], [], 0⟩, ⟨1, [97, 32, 98], [49], 0⟩, ⟨1, [65], [32, 49], 0⟩, ⟨1, [99, 111, 110, 110, 101, 99, 116, 105, 111, 110], [49], 0⟩, ⟨1, [65], [49], 1⟩, ⟨2, [], [], 0⟩, ⟨3, [], [], (-1)⟩, ⟨3, [65], [], 0⟩, ⟨4, [], [47], 0⟩, ⟨4, [], [97, 112, 105], 0⟩, ⟨4, [], [47, 97, 112, 105, 47], 0⟩, ⟨5, [65], [], 0⟩, ⟨5, [65], [85, 112, 103, 114, 97, 100, 101], 0⟩, ⟨1, [65, 76, 76, 79, 87], [71, 69, 84], 0⟩, ⟨1, [115, 101, 99, 45, 119, 101, 98, 115, 111, 99, 107, 101, 116, 45, 97, 99, 99, 101, 112, 116], [], 0⟩, ⟨5, [65], [83, 101, 99, 45, 87, 101, 98, 83, 111, 99, 107, 101, 116, 45, 86, 101, 114, 115, 105, 111, 110], 0⟩, ⟨1, [67, 111, 110, 116, 101, 110, 116, 45, 76, 101, 110, 103, 116, 104], [49], 0⟩, ⟨1, [116, 114, 97, 110, 115, 102, 101, 114, 45, 101, 110, 99, 111, 100, 105, 110, 103], [], 0⟩]
def smallB (l : List Stp) (r : Rq) : Bool := (decide (l.length ≤ 12) && l.all fun s => decide (s.name.length ≤ 100) && decide (s.val.length ≤ 100)) && ((decide (r.fs.length ≤ 40) && decide (r.p.length ≤ 300)) && (decide (r.body.length ≤ 3000) && r.fs.all fun f => decide (f.1.length ≤ 200) && decide (f.2.length ≤ 200)))
theorem smallB_is {l : List Stp} {r : Rq} (h : smallB l r = true) : SmallS l ∧ SmallR r := by
  unfold smallB at h
  simp only [Bool.and_eq_true, decide_eq_true_eq, List.all_eq_true] at h
  obtain ⟨⟨h1, h2⟩, ⟨h3, h4⟩, h5, h6⟩ := h
  exact ⟨⟨h1, h2⟩, ⟨h3, h4, h5, h6⟩⟩
theorem kx_all : ∀ i : Fin 12, (fun x : List Stp × Rq × (Nat × Tx × Fds) => smallB x.1 x.2.1 = true ∧ wrapC x.1 = 0 ∧ tellA x.2.1 x.1 = x.2.2 ∧ x.2.2.2.2.length ≤ 100) (kxRows[i.1]?.getD ([], ⟨[], [], [], 0, [], [], false⟩, (0, [], []))) := by decide +kernel
theorem kx_bad : ∀ i : Fin 20, (fun s : Stp => smallB [s] ⟨[], [], [], 0, [], [], false⟩ = true ∧ rightS s = false) (kxBad[i.1]?.getD ⟨0, [], [], 0⟩) := by decide +kernel
/-- A row of the table, as it lies. -/
structure KxAt (X : World) (B i : Nat) (l : List Stp) (r : Rq) (x : Nat × Tx × Fds) (Vl Vq Vx : Value) (bl bq bx : Nat) : Prop where
  sta : StA X Vl l bl 0
  faq : FA X Vq r.fs bq 0
  fax : FA X Vx x.2.2 bx 0
  c0 : X.cell? ⟨B, i * 11, none⟩ = some Vl
  c1 : X.cell? ⟨B, i * 11 + 1, none⟩ = some (S r.m)
  c2 : X.cell? ⟨B, i * 11 + 1 + 1, none⟩ = some (S r.p)
  c3 : X.cell? ⟨B, i * 11 + 1 + 2, none⟩ = some (S r.q)
  c4 : X.cell? ⟨B, i * 11 + 1 + 3, none⟩ = some (.int .i64 r.v)
  c5 : X.cell? ⟨B, i * 11 + 1 + 4, none⟩ = some Vq
  c6 : X.cell? ⟨B, i * 11 + 1 + 5, none⟩ = some (S r.body)
  c7 : X.cell? ⟨B, i * 11 + 1 + 6, none⟩ = some (.bool r.cl)
  c8 : X.cell? ⟨B, i * 11 + 8, none⟩ = some (.int .i64 (x.1 : Int))
  c9 : X.cell? ⟨B, i * 11 + 8 + 1, none⟩ = some Vx
  ca : X.cell? ⟨B, i * 11 + 8 + 2, none⟩ = some (S x.2.1)
theorem KxAt.below {X Y : World} {B i : Nat} {l : List Stp} {r : Rq} {x : Nat × Tx × Fds} {Vl Vq Vx : Value} {bl bq bx : Nat} (h : KxAt X B i l r x Vl Vq Vx bl bq bx) (hb : Below X.heap.size X Y) : KxAt Y B i l r x Vl Vq Vx bl bq bx := by
  have up : ∀ {q : Addr} {v : Value}, X.cell? q = some v → Y.cell? q = some v := fun hc => by rw [hb.cell (World.block_lt_of_cell? X _ hc)]; exact hc
  exact ⟨h.sta.below hb, h.faq.below hb, h.fax.below hb, up h.c0, up h.c1, up h.c2, up h.c3, up h.c4, up h.c5, up h.c6, up h.c7, up h.c8, up h.c9, up h.ca⟩
theorem sta_nil13 (w : World) : StA w (.slice none 0 0) [] 0 0 :=
  ⟨fun T w' => lenS _ _ _ T w', fun i hi => absurd hi (by simp), fun i s hs => (by simp at hs), ⟨_, _, rfl, Nat.le_refl _, fun h => absurd rfl h⟩⟩
/-- One step of a row. -/
theorem sta_one {w : World} {V : Value} {l : List Stp} {b o : Nat} (h : StA w V l b o) (i : Nat) (s : Stp) (hs : l[i]? = some s) (c : Nat) (hc : 1 ≤ c) : StA w (.slice (some ⟨b, o + i * 4, none⟩) 1 c) [s] b (o + i * 4) :=
  ⟨fun T w' => lenS _ _ _ T w', fun j hj w' => by
    obtain rfl : j = 0 := by simpa using hj
    exact indexS4 b (o + i * 4) 1 c 0 (by omega) w', fun j t ht k v hv => by
    cases j with
    | zero =>
      obtain rfl : s = t := by simpa using ht
      rw [Nat.zero_mul, Nat.add_zero]
      exact h.cell i s hs k v hv
    | succ j => simp at ht, ⟨_, _, rfl, hc, fun _ => rfl⟩⟩
theorem idxR (b n c i : Nat) (hi : i < n) (w' : World) : (Instr.indexAt 55 (.slice (some ⟨b, 0, none⟩) n c) (.int .i64 (i : Int))).run Tryd.prog w' = .ok (.pointer (some ⟨b, i * 11, none⟩)) w' := by
  have := run_index_at (P := Tryd.prog) Tryd.underlying55 (fun w => Tryd.sizeOf54 w) b 0 n c i hi w'
  rwa [Nat.zero_add] at this
/-- The world once the table is built. -/
def kxW (w : World) : World := (((((((((((((((((((((((((((((w.alloc (.cells #[.int .i64 1, .string ⟨#[65]⟩, .string ⟨#[49]⟩, .int .i64 0] 35)).alloc (.cells #[.int .i64 1, .string ⟨#[66]⟩, .string ⟨#[50]⟩, .int .i64 0] 35)).alloc (.cells #[.int .i64 2, .string ⟨#[75]⟩, .string ⟨#[118]⟩, .int .i64 0] 35)).alloc (.cells #[.int .i64 4, .string ⟨#[]⟩, .string ⟨#[47, 97, 112, 105]⟩, .int .i64 0] 35)).alloc (.cells #[.string ⟨#[65]⟩, .string ⟨#[49]⟩] 53)).alloc (.cells #[.string ⟨#[66]⟩, .string ⟨#[50]⟩] 53)).alloc (.cells #[.int .i64 1, .string ⟨#[65]⟩, .string ⟨#[49]⟩, .int .i64 0, .int .i64 1, .string ⟨#[66]⟩, .string ⟨#[50]⟩, .int .i64 0] 35)).alloc (.cells #[.string ⟨#[66]⟩, .string ⟨#[50]⟩, .string ⟨#[65]⟩, .string ⟨#[49]⟩] 53)).alloc (.cells #[.int .i64 2, .string ⟨#[75]⟩, .string ⟨#[118]⟩, .int .i64 0, .int .i64 1, .string ⟨#[65]⟩, .string ⟨#[49]⟩, .int .i64 0] 35)).alloc (.cells #[.string ⟨#[107]⟩, .string ⟨#[118]⟩] 53)).alloc (.cells #[.string ⟨#[65]⟩, .string ⟨#[49]⟩] 53)).alloc (.cells #[.int .i64 2, .string ⟨#[75]⟩, .string ⟨#[118]⟩, .int .i64 0, .int .i64 1, .string ⟨#[65]⟩, .string ⟨#[49]⟩, .int .i64 0] 35)).alloc (.cells #[.string ⟨#[75]⟩, .string ⟨#[119]⟩, .string ⟨#[107]⟩, .string ⟨#[118]⟩] 53)).alloc (.cells #[.int .i64 2, .string ⟨#[75]⟩, .string ⟨#[118]⟩, .int .i64 0, .int .i64 1, .string ⟨#[65]⟩, .string ⟨#[49]⟩, .int .i64 0] 35)).alloc (.cells #[.int .i64 1, .string ⟨#[65]⟩, .string ⟨#[49]⟩, .int .i64 0, .int .i64 4, .string ⟨#[]⟩, .string ⟨#[47, 97, 112, 105]⟩, .int .i64 0] 35)).alloc (.cells #[.string ⟨#[65]⟩, .string ⟨#[49]⟩] 53)).alloc (.cells #[.int .i64 1, .string ⟨#[65]⟩, .string ⟨#[49]⟩, .int .i64 0, .int .i64 4, .string ⟨#[]⟩, .string ⟨#[47, 97, 112, 105]⟩, .int .i64 0] 35)).alloc (.cells #[.string ⟨#[65]⟩, .string ⟨#[49]⟩] 53)).alloc (.cells #[.int .i64 1, .string ⟨#[65]⟩, .string ⟨#[49]⟩, .int .i64 0, .int .i64 4, .string ⟨#[]⟩, .string ⟨#[47, 97, 112, 105]⟩, .int .i64 0] 35)).alloc (.cells #[.string ⟨#[65]⟩, .string ⟨#[49]⟩] 53)).alloc (.cells #[.int .i64 3, .string ⟨#[]⟩, .string ⟨#[]⟩, .int .i64 2, .int .i64 1, .string ⟨#[65]⟩, .string ⟨#[49]⟩, .int .i64 0] 35)).alloc (.cells #[.int .i64 3, .string ⟨#[]⟩, .string ⟨#[]⟩, .int .i64 3, .int .i64 1, .string ⟨#[65]⟩, .string ⟨#[49]⟩, .int .i64 0] 35)).alloc (.cells #[.string ⟨#[65]⟩, .string ⟨#[49]⟩] 53)).alloc (.cells #[.int .i64 5, .string ⟨#[70, 114, 111, 109]⟩, .string ⟨#[88, 45, 87, 104, 111]⟩, .int .i64 0] 35)).alloc (.cells #[.string ⟨#[70, 82, 79, 77]⟩, .string ⟨#[109, 101]⟩] 53)).alloc (.cells #[.string ⟨#[88, 45, 87, 104, 111]⟩, .string ⟨#[109, 101]⟩] 53)).alloc (.cells #[.int .i64 5, .string ⟨#[70, 114, 111, 109]⟩, .string ⟨#[88, 45, 87, 104, 111]⟩, .int .i64 0] 35)).alloc (.cells #[.string ⟨#[88, 45, 87, 104, 111]⟩, .string ⟨#[45]⟩] 53)).alloc (.cells #[.slice (some ⟨w.heap.size + 1 + 1 + 1 + 1 + 1 + 1, 0, none⟩) 2 2, .string ⟨#[]⟩, .string ⟨#[47, 120]⟩, .string ⟨#[]⟩, .int .i64 0, .slice none 0 0, .string ⟨#[]⟩, .bool false, .int .i64 200, .slice (some ⟨w.heap.size + 1 + 1 + 1 + 1 + 1 + 1 + 1, 0, none⟩) 2 2, .string ⟨#[47, 120]⟩, .slice (some ⟨w.heap.size + 1 + 1 + 1 + 1 + 1 + 1 + 1 + 1, 0, none⟩) 2 2, .string ⟨#[]⟩, .string ⟨#[47, 120]⟩, .string ⟨#[]⟩, .int .i64 0, .slice (some ⟨w.heap.size + 1 + 1 + 1 + 1 + 1 + 1 + 1 + 1 + 1, 0, none⟩) 1 1, .string ⟨#[]⟩, .bool false, .int .i64 200, .slice (some ⟨w.heap.size + 1 + 1 + 1 + 1 + 1 + 1 + 1 + 1 + 1 + 1, 0, none⟩) 1 1, .string ⟨#[47, 120]⟩, .slice (some ⟨w.heap.size + 1 + 1 + 1 + 1 + 1 + 1 + 1 + 1 + 1 + 1 + 1, 0, none⟩) 2 2, .string ⟨#[]⟩, .string ⟨#[47, 120]⟩, .string ⟨#[]⟩, .int .i64 0, .slice (some ⟨w.heap.size + 1 + 1 + 1 + 1 + 1 + 1 + 1 + 1 + 1 + 1 + 1 + 1, 0, none⟩) 2 2, .string ⟨#[]⟩, .bool false, .int .i64 403, .slice none 0 0, .string ⟨#[102, 111, 114, 98, 105, 100, 100, 101, 110]⟩, .slice (some ⟨w.heap.size + 1 + 1 + 1 + 1 + 1 + 1 + 1 + 1 + 1 + 1 + 1 + 1 + 1, 0, none⟩) 2 2, .string ⟨#[]⟩, .string ⟨#[47, 120]⟩, .string ⟨#[]⟩, .int .i64 0, .slice none 0 0, .string ⟨#[]⟩, .bool false, .int .i64 403, .slice none 0 0, .string ⟨#[102, 111, 114, 98, 105, 100, 100, 101, 110]⟩, .slice (some ⟨w.heap.size + 1 + 1 + 1 + 1 + 1 + 1 + 1 + 1 + 1 + 1 + 1 + 1 + 1 + 1, 0, none⟩) 2 2, .string ⟨#[]⟩, .string ⟨#[47, 97, 112, 105, 47, 120]⟩, .string ⟨#[]⟩, .int .i64 0, .slice none 0 0, .string ⟨#[]⟩, .bool false, .int .i64 200, .slice (some ⟨w.heap.size + 1 + 1 + 1 + 1 + 1 + 1 + 1 + 1 + 1 + 1 + 1 + 1 + 1 + 1 + 1, 0, none⟩) 1 1, .string ⟨#[47, 120]⟩, .slice (some ⟨w.heap.size + 1 + 1 + 1 + 1 + 1 + 1 + 1 + 1 + 1 + 1 + 1 + 1 + 1 + 1 + 1 + 1, 0, none⟩) 2 2, .string ⟨#[]⟩, .string ⟨#[47, 97, 112, 105]⟩, .string ⟨#[]⟩, .int .i64 0, .slice none 0 0, .string ⟨#[]⟩, .bool false, .int .i64 200, .slice (some ⟨w.heap.size + 1 + 1 + 1 + 1 + 1 + 1 + 1 + 1 + 1 + 1 + 1 + 1 + 1 + 1 + 1 + 1 + 1, 0, none⟩) 1 1, .string ⟨#[47]⟩, .slice (some ⟨w.heap.size + 1 + 1 + 1 + 1 + 1 + 1 + 1 + 1 + 1 + 1 + 1 + 1 + 1 + 1 + 1 + 1 + 1 + 1, 0, none⟩) 2 2, .string ⟨#[]⟩, .string ⟨#[47, 97, 112, 105, 120]⟩, .string ⟨#[]⟩, .int .i64 0, .slice none 0 0, .string ⟨#[]⟩, .bool false, .int .i64 404, .slice (some ⟨w.heap.size + 1 + 1 + 1 + 1 + 1 + 1 + 1 + 1 + 1 + 1 + 1 + 1 + 1 + 1 + 1 + 1 + 1 + 1 + 1, 0, none⟩) 1 1, .string ⟨#[110, 111, 116, 32, 102, 111, 117, 110, 100]⟩, .slice (some ⟨w.heap.size + 1 + 1 + 1 + 1 + 1 + 1 + 1 + 1 + 1 + 1 + 1 + 1 + 1 + 1 + 1 + 1 + 1 + 1 + 1 + 1, 0, none⟩) 2 2, .string ⟨#[]⟩, .string ⟨#[47, 120]⟩, .string ⟨#[]⟩, .int .i64 0, .slice none 0 0, .string ⟨#[97, 98, 99]⟩, .bool false, .int .i64 413, .slice none 0 0, .string ⟨#[116, 111, 111, 32, 108, 111, 110, 103]⟩, .slice (some ⟨w.heap.size + 1 + 1 + 1 + 1 + 1 + 1 + 1 + 1 + 1 + 1 + 1 + 1 + 1 + 1 + 1 + 1 + 1 + 1 + 1 + 1 + 1, 0, none⟩) 2 2, .string ⟨#[]⟩, .string ⟨#[47, 120]⟩, .string ⟨#[]⟩, .int .i64 0, .slice none 0 0, .string ⟨#[97, 98, 99]⟩, .bool false, .int .i64 200, .slice (some ⟨w.heap.size + 1 + 1 + 1 + 1 + 1 + 1 + 1 + 1 + 1 + 1 + 1 + 1 + 1 + 1 + 1 + 1 + 1 + 1 + 1 + 1 + 1 + 1, 0, none⟩) 1 1, .string ⟨#[47, 120]⟩, .slice (some ⟨w.heap.size + 1 + 1 + 1 + 1 + 1 + 1 + 1 + 1 + 1 + 1 + 1 + 1 + 1 + 1 + 1 + 1 + 1 + 1 + 1 + 1 + 1 + 1 + 1, 0, none⟩) 1 1, .string ⟨#[]⟩, .string ⟨#[47, 120]⟩, .string ⟨#[]⟩, .int .i64 0, .slice (some ⟨w.heap.size + 1 + 1 + 1 + 1 + 1 + 1 + 1 + 1 + 1 + 1 + 1 + 1 + 1 + 1 + 1 + 1 + 1 + 1 + 1 + 1 + 1 + 1 + 1 + 1, 0, none⟩) 1 1, .string ⟨#[]⟩, .bool false, .int .i64 200, .slice (some ⟨w.heap.size + 1 + 1 + 1 + 1 + 1 + 1 + 1 + 1 + 1 + 1 + 1 + 1 + 1 + 1 + 1 + 1 + 1 + 1 + 1 + 1 + 1 + 1 + 1 + 1 + 1, 0, none⟩) 1 1, .string ⟨#[47, 120]⟩, .slice (some ⟨w.heap.size + 1 + 1 + 1 + 1 + 1 + 1 + 1 + 1 + 1 + 1 + 1 + 1 + 1 + 1 + 1 + 1 + 1 + 1 + 1 + 1 + 1 + 1 + 1 + 1 + 1 + 1, 0, none⟩) 1 1, .string ⟨#[]⟩, .string ⟨#[47, 120]⟩, .string ⟨#[]⟩, .int .i64 0, .slice none 0 0, .string ⟨#[]⟩, .bool false, .int .i64 200, .slice (some ⟨w.heap.size + 1 + 1 + 1 + 1 + 1 + 1 + 1 + 1 + 1 + 1 + 1 + 1 + 1 + 1 + 1 + 1 + 1 + 1 + 1 + 1 + 1 + 1 + 1 + 1 + 1 + 1 + 1, 0, none⟩) 1 1, .string ⟨#[47, 120]⟩, .slice none 0 0, .string ⟨#[]⟩, .string ⟨#[47, 120]⟩, .string ⟨#[]⟩, .int .i64 0, .slice none 0 0, .string ⟨#[]⟩, .bool false, .int .i64 200, .slice none 0 0, .string ⟨#[47, 120]⟩] 54))
set_option maxRecDepth 100000 in
set_option maxHeartbeats 4000000 in
theorem kx_rows (w X : World) (hX : X = kxW w) : VarsAt w X ∧ ∀ i : Nat, i < 12 → ∃ l r x Vl Vq Vx bl bq bx, kxRows[i]? = some (l, r, x) ∧ KxAt X (w.heap.size + 1 + 1 + 1 + 1 + 1 + 1 + 1 + 1 + 1 + 1 + 1 + 1 + 1 + 1 + 1 + 1 + 1 + 1 + 1 + 1 + 1 + 1 + 1 + 1 + 1 + 1 + 1 + 1) i l r x Vl Vq Vx bl bq bx := by
  unfold kxW at hX
  have V0 := vars_new w
  obtain ⟨X0, hX0⟩ : ∃ X, X = ((((((w.alloc (.cells #[.int .i64 1, .string ⟨#[65]⟩, .string ⟨#[49]⟩, .int .i64 0] 35)).alloc (.cells #[.int .i64 1, .string ⟨#[66]⟩, .string ⟨#[50]⟩, .int .i64 0] 35)).alloc (.cells #[.int .i64 2, .string ⟨#[75]⟩, .string ⟨#[118]⟩, .int .i64 0] 35)).alloc (.cells #[.int .i64 4, .string ⟨#[]⟩, .string ⟨#[47, 97, 112, 105]⟩, .int .i64 0] 35)).alloc (.cells #[.string ⟨#[65]⟩, .string ⟨#[49]⟩] 53)).alloc (.cells #[.string ⟨#[66]⟩, .string ⟨#[50]⟩] 53)) := ⟨_, rfl⟩
  have s0 : X0.heap.size = w.heap.size + 1 + 1 + 1 + 1 + 1 + 1 := by rw [hX0]; simp only [alloc_size]
  rw [← hX0] at hX V0
  clear hX0
  obtain ⟨X1, hX1⟩ : ∃ X, X = X0.alloc (.cells #[.int .i64 1, .string ⟨#[65]⟩, .string ⟨#[49]⟩, .int .i64 0, .int .i64 1, .string ⟨#[66]⟩, .string ⟨#[50]⟩, .int .i64 0] 35) := ⟨_, rfl⟩
  have R1 : Row X1 (w.heap.size + 1 + 1 + 1 + 1 + 1 + 1) #[.int .i64 1, .string ⟨#[65]⟩, .string ⟨#[49]⟩, .int .i64 0, .int .i64 1, .string ⟨#[66]⟩, .string ⟨#[50]⟩, .int .i64 0] 35 := by
    have h := row_new X0 #[.int .i64 1, .string ⟨#[65]⟩, .string ⟨#[49]⟩, .int .i64 0, .int .i64 1, .string ⟨#[66]⟩, .string ⟨#[50]⟩, .int .i64 0] 35
    rw [← hX1, s0] at h
    exact h
  have s1 : X1.heap.size = w.heap.size + 1 + 1 + 1 + 1 + 1 + 1 + 1 := by rw [hX1, alloc_size, s0]
  have B1 : Below X0.heap.size X0 X1 := by rw [hX1]; exact (Below.refl _ _).alloc (Nat.le_refl _) _
  rw [← hX1] at hX
  clear hX1
  obtain ⟨X2, hX2⟩ : ∃ X, X = X1.alloc (.cells #[.string ⟨#[66]⟩, .string ⟨#[50]⟩, .string ⟨#[65]⟩, .string ⟨#[49]⟩] 53) := ⟨_, rfl⟩
  have R2 : Row X2 (w.heap.size + 1 + 1 + 1 + 1 + 1 + 1 + 1) #[.string ⟨#[66]⟩, .string ⟨#[50]⟩, .string ⟨#[65]⟩, .string ⟨#[49]⟩] 53 := by
    have h := row_new X1 #[.string ⟨#[66]⟩, .string ⟨#[50]⟩, .string ⟨#[65]⟩, .string ⟨#[49]⟩] 53
    rw [← hX2, s1] at h
    exact h
  have s2 : X2.heap.size = w.heap.size + 1 + 1 + 1 + 1 + 1 + 1 + 1 + 1 := by rw [hX2, alloc_size, s1]
  have B2 : Below X1.heap.size X1 X2 := by rw [hX2]; exact (Below.refl _ _).alloc (Nat.le_refl _) _
  rw [← hX2] at hX
  clear hX2
  obtain ⟨X3, hX3⟩ : ∃ X, X = X2.alloc (.cells #[.int .i64 2, .string ⟨#[75]⟩, .string ⟨#[118]⟩, .int .i64 0, .int .i64 1, .string ⟨#[65]⟩, .string ⟨#[49]⟩, .int .i64 0] 35) := ⟨_, rfl⟩
  have R3 : Row X3 (w.heap.size + 1 + 1 + 1 + 1 + 1 + 1 + 1 + 1) #[.int .i64 2, .string ⟨#[75]⟩, .string ⟨#[118]⟩, .int .i64 0, .int .i64 1, .string ⟨#[65]⟩, .string ⟨#[49]⟩, .int .i64 0] 35 := by
    have h := row_new X2 #[.int .i64 2, .string ⟨#[75]⟩, .string ⟨#[118]⟩, .int .i64 0, .int .i64 1, .string ⟨#[65]⟩, .string ⟨#[49]⟩, .int .i64 0] 35
    rw [← hX3, s2] at h
    exact h
  have s3 : X3.heap.size = w.heap.size + 1 + 1 + 1 + 1 + 1 + 1 + 1 + 1 + 1 := by rw [hX3, alloc_size, s2]
  have B3 : Below X2.heap.size X2 X3 := by rw [hX3]; exact (Below.refl _ _).alloc (Nat.le_refl _) _
  rw [← hX3] at hX
  clear hX3
  obtain ⟨X4, hX4⟩ : ∃ X, X = X3.alloc (.cells #[.string ⟨#[107]⟩, .string ⟨#[118]⟩] 53) := ⟨_, rfl⟩
  have R4 : Row X4 (w.heap.size + 1 + 1 + 1 + 1 + 1 + 1 + 1 + 1 + 1) #[.string ⟨#[107]⟩, .string ⟨#[118]⟩] 53 := by
    have h := row_new X3 #[.string ⟨#[107]⟩, .string ⟨#[118]⟩] 53
    rw [← hX4, s3] at h
    exact h
  have s4 : X4.heap.size = w.heap.size + 1 + 1 + 1 + 1 + 1 + 1 + 1 + 1 + 1 + 1 := by rw [hX4, alloc_size, s3]
  have B4 : Below X3.heap.size X3 X4 := by rw [hX4]; exact (Below.refl _ _).alloc (Nat.le_refl _) _
  rw [← hX4] at hX
  clear hX4
  obtain ⟨X5, hX5⟩ : ∃ X, X = X4.alloc (.cells #[.string ⟨#[65]⟩, .string ⟨#[49]⟩] 53) := ⟨_, rfl⟩
  have R5 : Row X5 (w.heap.size + 1 + 1 + 1 + 1 + 1 + 1 + 1 + 1 + 1 + 1) #[.string ⟨#[65]⟩, .string ⟨#[49]⟩] 53 := by
    have h := row_new X4 #[.string ⟨#[65]⟩, .string ⟨#[49]⟩] 53
    rw [← hX5, s4] at h
    exact h
  have s5 : X5.heap.size = w.heap.size + 1 + 1 + 1 + 1 + 1 + 1 + 1 + 1 + 1 + 1 + 1 := by rw [hX5, alloc_size, s4]
  have B5 : Below X4.heap.size X4 X5 := by rw [hX5]; exact (Below.refl _ _).alloc (Nat.le_refl _) _
  rw [← hX5] at hX
  clear hX5
  obtain ⟨X6, hX6⟩ : ∃ X, X = X5.alloc (.cells #[.int .i64 2, .string ⟨#[75]⟩, .string ⟨#[118]⟩, .int .i64 0, .int .i64 1, .string ⟨#[65]⟩, .string ⟨#[49]⟩, .int .i64 0] 35) := ⟨_, rfl⟩
  have R6 : Row X6 (w.heap.size + 1 + 1 + 1 + 1 + 1 + 1 + 1 + 1 + 1 + 1 + 1) #[.int .i64 2, .string ⟨#[75]⟩, .string ⟨#[118]⟩, .int .i64 0, .int .i64 1, .string ⟨#[65]⟩, .string ⟨#[49]⟩, .int .i64 0] 35 := by
    have h := row_new X5 #[.int .i64 2, .string ⟨#[75]⟩, .string ⟨#[118]⟩, .int .i64 0, .int .i64 1, .string ⟨#[65]⟩, .string ⟨#[49]⟩, .int .i64 0] 35
    rw [← hX6, s5] at h
    exact h
  have s6 : X6.heap.size = w.heap.size + 1 + 1 + 1 + 1 + 1 + 1 + 1 + 1 + 1 + 1 + 1 + 1 := by rw [hX6, alloc_size, s5]
  have B6 : Below X5.heap.size X5 X6 := by rw [hX6]; exact (Below.refl _ _).alloc (Nat.le_refl _) _
  rw [← hX6] at hX
  clear hX6
  obtain ⟨X7, hX7⟩ : ∃ X, X = X6.alloc (.cells #[.string ⟨#[75]⟩, .string ⟨#[119]⟩, .string ⟨#[107]⟩, .string ⟨#[118]⟩] 53) := ⟨_, rfl⟩
  have R7 : Row X7 (w.heap.size + 1 + 1 + 1 + 1 + 1 + 1 + 1 + 1 + 1 + 1 + 1 + 1) #[.string ⟨#[75]⟩, .string ⟨#[119]⟩, .string ⟨#[107]⟩, .string ⟨#[118]⟩] 53 := by
    have h := row_new X6 #[.string ⟨#[75]⟩, .string ⟨#[119]⟩, .string ⟨#[107]⟩, .string ⟨#[118]⟩] 53
    rw [← hX7, s6] at h
    exact h
  have s7 : X7.heap.size = w.heap.size + 1 + 1 + 1 + 1 + 1 + 1 + 1 + 1 + 1 + 1 + 1 + 1 + 1 := by rw [hX7, alloc_size, s6]
  have B7 : Below X6.heap.size X6 X7 := by rw [hX7]; exact (Below.refl _ _).alloc (Nat.le_refl _) _
  rw [← hX7] at hX
  clear hX7
  obtain ⟨X8, hX8⟩ : ∃ X, X = X7.alloc (.cells #[.int .i64 2, .string ⟨#[75]⟩, .string ⟨#[118]⟩, .int .i64 0, .int .i64 1, .string ⟨#[65]⟩, .string ⟨#[49]⟩, .int .i64 0] 35) := ⟨_, rfl⟩
  have R8 : Row X8 (w.heap.size + 1 + 1 + 1 + 1 + 1 + 1 + 1 + 1 + 1 + 1 + 1 + 1 + 1) #[.int .i64 2, .string ⟨#[75]⟩, .string ⟨#[118]⟩, .int .i64 0, .int .i64 1, .string ⟨#[65]⟩, .string ⟨#[49]⟩, .int .i64 0] 35 := by
    have h := row_new X7 #[.int .i64 2, .string ⟨#[75]⟩, .string ⟨#[118]⟩, .int .i64 0, .int .i64 1, .string ⟨#[65]⟩, .string ⟨#[49]⟩, .int .i64 0] 35
    rw [← hX8, s7] at h
    exact h
  have s8 : X8.heap.size = w.heap.size + 1 + 1 + 1 + 1 + 1 + 1 + 1 + 1 + 1 + 1 + 1 + 1 + 1 + 1 := by rw [hX8, alloc_size, s7]
  have B8 : Below X7.heap.size X7 X8 := by rw [hX8]; exact (Below.refl _ _).alloc (Nat.le_refl _) _
  rw [← hX8] at hX
  clear hX8
  obtain ⟨X9, hX9⟩ : ∃ X, X = X8.alloc (.cells #[.int .i64 1, .string ⟨#[65]⟩, .string ⟨#[49]⟩, .int .i64 0, .int .i64 4, .string ⟨#[]⟩, .string ⟨#[47, 97, 112, 105]⟩, .int .i64 0] 35) := ⟨_, rfl⟩
  have R9 : Row X9 (w.heap.size + 1 + 1 + 1 + 1 + 1 + 1 + 1 + 1 + 1 + 1 + 1 + 1 + 1 + 1) #[.int .i64 1, .string ⟨#[65]⟩, .string ⟨#[49]⟩, .int .i64 0, .int .i64 4, .string ⟨#[]⟩, .string ⟨#[47, 97, 112, 105]⟩, .int .i64 0] 35 := by
    have h := row_new X8 #[.int .i64 1, .string ⟨#[65]⟩, .string ⟨#[49]⟩, .int .i64 0, .int .i64 4, .string ⟨#[]⟩, .string ⟨#[47, 97, 112, 105]⟩, .int .i64 0] 35
    rw [← hX9, s8] at h
    exact h
  have s9 : X9.heap.size = w.heap.size + 1 + 1 + 1 + 1 + 1 + 1 + 1 + 1 + 1 + 1 + 1 + 1 + 1 + 1 + 1 := by rw [hX9, alloc_size, s8]
  have B9 : Below X8.heap.size X8 X9 := by rw [hX9]; exact (Below.refl _ _).alloc (Nat.le_refl _) _
  rw [← hX9] at hX
  clear hX9
  obtain ⟨X10, hX10⟩ : ∃ X, X = X9.alloc (.cells #[.string ⟨#[65]⟩, .string ⟨#[49]⟩] 53) := ⟨_, rfl⟩
  have R10 : Row X10 (w.heap.size + 1 + 1 + 1 + 1 + 1 + 1 + 1 + 1 + 1 + 1 + 1 + 1 + 1 + 1 + 1) #[.string ⟨#[65]⟩, .string ⟨#[49]⟩] 53 := by
    have h := row_new X9 #[.string ⟨#[65]⟩, .string ⟨#[49]⟩] 53
    rw [← hX10, s9] at h
    exact h
  have s10 : X10.heap.size = w.heap.size + 1 + 1 + 1 + 1 + 1 + 1 + 1 + 1 + 1 + 1 + 1 + 1 + 1 + 1 + 1 + 1 := by rw [hX10, alloc_size, s9]
  have B10 : Below X9.heap.size X9 X10 := by rw [hX10]; exact (Below.refl _ _).alloc (Nat.le_refl _) _
  rw [← hX10] at hX
  clear hX10
  obtain ⟨X11, hX11⟩ : ∃ X, X = X10.alloc (.cells #[.int .i64 1, .string ⟨#[65]⟩, .string ⟨#[49]⟩, .int .i64 0, .int .i64 4, .string ⟨#[]⟩, .string ⟨#[47, 97, 112, 105]⟩, .int .i64 0] 35) := ⟨_, rfl⟩
  have R11 : Row X11 (w.heap.size + 1 + 1 + 1 + 1 + 1 + 1 + 1 + 1 + 1 + 1 + 1 + 1 + 1 + 1 + 1 + 1) #[.int .i64 1, .string ⟨#[65]⟩, .string ⟨#[49]⟩, .int .i64 0, .int .i64 4, .string ⟨#[]⟩, .string ⟨#[47, 97, 112, 105]⟩, .int .i64 0] 35 := by
    have h := row_new X10 #[.int .i64 1, .string ⟨#[65]⟩, .string ⟨#[49]⟩, .int .i64 0, .int .i64 4, .string ⟨#[]⟩, .string ⟨#[47, 97, 112, 105]⟩, .int .i64 0] 35
    rw [← hX11, s10] at h
    exact h
  have s11 : X11.heap.size = w.heap.size + 1 + 1 + 1 + 1 + 1 + 1 + 1 + 1 + 1 + 1 + 1 + 1 + 1 + 1 + 1 + 1 + 1 := by rw [hX11, alloc_size, s10]
  have B11 : Below X10.heap.size X10 X11 := by rw [hX11]; exact (Below.refl _ _).alloc (Nat.le_refl _) _
  rw [← hX11] at hX
  clear hX11
  obtain ⟨X12, hX12⟩ : ∃ X, X = X11.alloc (.cells #[.string ⟨#[65]⟩, .string ⟨#[49]⟩] 53) := ⟨_, rfl⟩
  have R12 : Row X12 (w.heap.size + 1 + 1 + 1 + 1 + 1 + 1 + 1 + 1 + 1 + 1 + 1 + 1 + 1 + 1 + 1 + 1 + 1) #[.string ⟨#[65]⟩, .string ⟨#[49]⟩] 53 := by
    have h := row_new X11 #[.string ⟨#[65]⟩, .string ⟨#[49]⟩] 53
    rw [← hX12, s11] at h
    exact h
  have s12 : X12.heap.size = w.heap.size + 1 + 1 + 1 + 1 + 1 + 1 + 1 + 1 + 1 + 1 + 1 + 1 + 1 + 1 + 1 + 1 + 1 + 1 := by rw [hX12, alloc_size, s11]
  have B12 : Below X11.heap.size X11 X12 := by rw [hX12]; exact (Below.refl _ _).alloc (Nat.le_refl _) _
  rw [← hX12] at hX
  clear hX12
  obtain ⟨X13, hX13⟩ : ∃ X, X = X12.alloc (.cells #[.int .i64 1, .string ⟨#[65]⟩, .string ⟨#[49]⟩, .int .i64 0, .int .i64 4, .string ⟨#[]⟩, .string ⟨#[47, 97, 112, 105]⟩, .int .i64 0] 35) := ⟨_, rfl⟩
  have R13 : Row X13 (w.heap.size + 1 + 1 + 1 + 1 + 1 + 1 + 1 + 1 + 1 + 1 + 1 + 1 + 1 + 1 + 1 + 1 + 1 + 1) #[.int .i64 1, .string ⟨#[65]⟩, .string ⟨#[49]⟩, .int .i64 0, .int .i64 4, .string ⟨#[]⟩, .string ⟨#[47, 97, 112, 105]⟩, .int .i64 0] 35 := by
    have h := row_new X12 #[.int .i64 1, .string ⟨#[65]⟩, .string ⟨#[49]⟩, .int .i64 0, .int .i64 4, .string ⟨#[]⟩, .string ⟨#[47, 97, 112, 105]⟩, .int .i64 0] 35
    rw [← hX13, s12] at h
    exact h
  have s13 : X13.heap.size = w.heap.size + 1 + 1 + 1 + 1 + 1 + 1 + 1 + 1 + 1 + 1 + 1 + 1 + 1 + 1 + 1 + 1 + 1 + 1 + 1 := by rw [hX13, alloc_size, s12]
  have B13 : Below X12.heap.size X12 X13 := by rw [hX13]; exact (Below.refl _ _).alloc (Nat.le_refl _) _
  rw [← hX13] at hX
  clear hX13
  obtain ⟨X14, hX14⟩ : ∃ X, X = X13.alloc (.cells #[.string ⟨#[65]⟩, .string ⟨#[49]⟩] 53) := ⟨_, rfl⟩
  have R14 : Row X14 (w.heap.size + 1 + 1 + 1 + 1 + 1 + 1 + 1 + 1 + 1 + 1 + 1 + 1 + 1 + 1 + 1 + 1 + 1 + 1 + 1) #[.string ⟨#[65]⟩, .string ⟨#[49]⟩] 53 := by
    have h := row_new X13 #[.string ⟨#[65]⟩, .string ⟨#[49]⟩] 53
    rw [← hX14, s13] at h
    exact h
  have s14 : X14.heap.size = w.heap.size + 1 + 1 + 1 + 1 + 1 + 1 + 1 + 1 + 1 + 1 + 1 + 1 + 1 + 1 + 1 + 1 + 1 + 1 + 1 + 1 := by rw [hX14, alloc_size, s13]
  have B14 : Below X13.heap.size X13 X14 := by rw [hX14]; exact (Below.refl _ _).alloc (Nat.le_refl _) _
  rw [← hX14] at hX
  clear hX14
  obtain ⟨X15, hX15⟩ : ∃ X, X = X14.alloc (.cells #[.int .i64 3, .string ⟨#[]⟩, .string ⟨#[]⟩, .int .i64 2, .int .i64 1, .string ⟨#[65]⟩, .string ⟨#[49]⟩, .int .i64 0] 35) := ⟨_, rfl⟩
  have R15 : Row X15 (w.heap.size + 1 + 1 + 1 + 1 + 1 + 1 + 1 + 1 + 1 + 1 + 1 + 1 + 1 + 1 + 1 + 1 + 1 + 1 + 1 + 1) #[.int .i64 3, .string ⟨#[]⟩, .string ⟨#[]⟩, .int .i64 2, .int .i64 1, .string ⟨#[65]⟩, .string ⟨#[49]⟩, .int .i64 0] 35 := by
    have h := row_new X14 #[.int .i64 3, .string ⟨#[]⟩, .string ⟨#[]⟩, .int .i64 2, .int .i64 1, .string ⟨#[65]⟩, .string ⟨#[49]⟩, .int .i64 0] 35
    rw [← hX15, s14] at h
    exact h
  have s15 : X15.heap.size = w.heap.size + 1 + 1 + 1 + 1 + 1 + 1 + 1 + 1 + 1 + 1 + 1 + 1 + 1 + 1 + 1 + 1 + 1 + 1 + 1 + 1 + 1 := by rw [hX15, alloc_size, s14]
  have B15 : Below X14.heap.size X14 X15 := by rw [hX15]; exact (Below.refl _ _).alloc (Nat.le_refl _) _
  rw [← hX15] at hX
  clear hX15
  obtain ⟨X16, hX16⟩ : ∃ X, X = X15.alloc (.cells #[.int .i64 3, .string ⟨#[]⟩, .string ⟨#[]⟩, .int .i64 3, .int .i64 1, .string ⟨#[65]⟩, .string ⟨#[49]⟩, .int .i64 0] 35) := ⟨_, rfl⟩
  have R16 : Row X16 (w.heap.size + 1 + 1 + 1 + 1 + 1 + 1 + 1 + 1 + 1 + 1 + 1 + 1 + 1 + 1 + 1 + 1 + 1 + 1 + 1 + 1 + 1) #[.int .i64 3, .string ⟨#[]⟩, .string ⟨#[]⟩, .int .i64 3, .int .i64 1, .string ⟨#[65]⟩, .string ⟨#[49]⟩, .int .i64 0] 35 := by
    have h := row_new X15 #[.int .i64 3, .string ⟨#[]⟩, .string ⟨#[]⟩, .int .i64 3, .int .i64 1, .string ⟨#[65]⟩, .string ⟨#[49]⟩, .int .i64 0] 35
    rw [← hX16, s15] at h
    exact h
  have s16 : X16.heap.size = w.heap.size + 1 + 1 + 1 + 1 + 1 + 1 + 1 + 1 + 1 + 1 + 1 + 1 + 1 + 1 + 1 + 1 + 1 + 1 + 1 + 1 + 1 + 1 := by rw [hX16, alloc_size, s15]
  have B16 : Below X15.heap.size X15 X16 := by rw [hX16]; exact (Below.refl _ _).alloc (Nat.le_refl _) _
  rw [← hX16] at hX
  clear hX16
  obtain ⟨X17, hX17⟩ : ∃ X, X = X16.alloc (.cells #[.string ⟨#[65]⟩, .string ⟨#[49]⟩] 53) := ⟨_, rfl⟩
  have R17 : Row X17 (w.heap.size + 1 + 1 + 1 + 1 + 1 + 1 + 1 + 1 + 1 + 1 + 1 + 1 + 1 + 1 + 1 + 1 + 1 + 1 + 1 + 1 + 1 + 1) #[.string ⟨#[65]⟩, .string ⟨#[49]⟩] 53 := by
    have h := row_new X16 #[.string ⟨#[65]⟩, .string ⟨#[49]⟩] 53
    rw [← hX17, s16] at h
    exact h
  have s17 : X17.heap.size = w.heap.size + 1 + 1 + 1 + 1 + 1 + 1 + 1 + 1 + 1 + 1 + 1 + 1 + 1 + 1 + 1 + 1 + 1 + 1 + 1 + 1 + 1 + 1 + 1 := by rw [hX17, alloc_size, s16]
  have B17 : Below X16.heap.size X16 X17 := by rw [hX17]; exact (Below.refl _ _).alloc (Nat.le_refl _) _
  rw [← hX17] at hX
  clear hX17
  obtain ⟨X18, hX18⟩ : ∃ X, X = X17.alloc (.cells #[.int .i64 5, .string ⟨#[70, 114, 111, 109]⟩, .string ⟨#[88, 45, 87, 104, 111]⟩, .int .i64 0] 35) := ⟨_, rfl⟩
  have R18 : Row X18 (w.heap.size + 1 + 1 + 1 + 1 + 1 + 1 + 1 + 1 + 1 + 1 + 1 + 1 + 1 + 1 + 1 + 1 + 1 + 1 + 1 + 1 + 1 + 1 + 1) #[.int .i64 5, .string ⟨#[70, 114, 111, 109]⟩, .string ⟨#[88, 45, 87, 104, 111]⟩, .int .i64 0] 35 := by
    have h := row_new X17 #[.int .i64 5, .string ⟨#[70, 114, 111, 109]⟩, .string ⟨#[88, 45, 87, 104, 111]⟩, .int .i64 0] 35
    rw [← hX18, s17] at h
    exact h
  have s18 : X18.heap.size = w.heap.size + 1 + 1 + 1 + 1 + 1 + 1 + 1 + 1 + 1 + 1 + 1 + 1 + 1 + 1 + 1 + 1 + 1 + 1 + 1 + 1 + 1 + 1 + 1 + 1 := by rw [hX18, alloc_size, s17]
  have B18 : Below X17.heap.size X17 X18 := by rw [hX18]; exact (Below.refl _ _).alloc (Nat.le_refl _) _
  rw [← hX18] at hX
  clear hX18
  obtain ⟨X19, hX19⟩ : ∃ X, X = X18.alloc (.cells #[.string ⟨#[70, 82, 79, 77]⟩, .string ⟨#[109, 101]⟩] 53) := ⟨_, rfl⟩
  have R19 : Row X19 (w.heap.size + 1 + 1 + 1 + 1 + 1 + 1 + 1 + 1 + 1 + 1 + 1 + 1 + 1 + 1 + 1 + 1 + 1 + 1 + 1 + 1 + 1 + 1 + 1 + 1) #[.string ⟨#[70, 82, 79, 77]⟩, .string ⟨#[109, 101]⟩] 53 := by
    have h := row_new X18 #[.string ⟨#[70, 82, 79, 77]⟩, .string ⟨#[109, 101]⟩] 53
    rw [← hX19, s18] at h
    exact h
  have s19 : X19.heap.size = w.heap.size + 1 + 1 + 1 + 1 + 1 + 1 + 1 + 1 + 1 + 1 + 1 + 1 + 1 + 1 + 1 + 1 + 1 + 1 + 1 + 1 + 1 + 1 + 1 + 1 + 1 := by rw [hX19, alloc_size, s18]
  have B19 : Below X18.heap.size X18 X19 := by rw [hX19]; exact (Below.refl _ _).alloc (Nat.le_refl _) _
  rw [← hX19] at hX
  clear hX19
  obtain ⟨X20, hX20⟩ : ∃ X, X = X19.alloc (.cells #[.string ⟨#[88, 45, 87, 104, 111]⟩, .string ⟨#[109, 101]⟩] 53) := ⟨_, rfl⟩
  have R20 : Row X20 (w.heap.size + 1 + 1 + 1 + 1 + 1 + 1 + 1 + 1 + 1 + 1 + 1 + 1 + 1 + 1 + 1 + 1 + 1 + 1 + 1 + 1 + 1 + 1 + 1 + 1 + 1) #[.string ⟨#[88, 45, 87, 104, 111]⟩, .string ⟨#[109, 101]⟩] 53 := by
    have h := row_new X19 #[.string ⟨#[88, 45, 87, 104, 111]⟩, .string ⟨#[109, 101]⟩] 53
    rw [← hX20, s19] at h
    exact h
  have s20 : X20.heap.size = w.heap.size + 1 + 1 + 1 + 1 + 1 + 1 + 1 + 1 + 1 + 1 + 1 + 1 + 1 + 1 + 1 + 1 + 1 + 1 + 1 + 1 + 1 + 1 + 1 + 1 + 1 + 1 := by rw [hX20, alloc_size, s19]
  have B20 : Below X19.heap.size X19 X20 := by rw [hX20]; exact (Below.refl _ _).alloc (Nat.le_refl _) _
  rw [← hX20] at hX
  clear hX20
  obtain ⟨X21, hX21⟩ : ∃ X, X = X20.alloc (.cells #[.int .i64 5, .string ⟨#[70, 114, 111, 109]⟩, .string ⟨#[88, 45, 87, 104, 111]⟩, .int .i64 0] 35) := ⟨_, rfl⟩
  have R21 : Row X21 (w.heap.size + 1 + 1 + 1 + 1 + 1 + 1 + 1 + 1 + 1 + 1 + 1 + 1 + 1 + 1 + 1 + 1 + 1 + 1 + 1 + 1 + 1 + 1 + 1 + 1 + 1 + 1) #[.int .i64 5, .string ⟨#[70, 114, 111, 109]⟩, .string ⟨#[88, 45, 87, 104, 111]⟩, .int .i64 0] 35 := by
    have h := row_new X20 #[.int .i64 5, .string ⟨#[70, 114, 111, 109]⟩, .string ⟨#[88, 45, 87, 104, 111]⟩, .int .i64 0] 35
    rw [← hX21, s20] at h
    exact h
  have s21 : X21.heap.size = w.heap.size + 1 + 1 + 1 + 1 + 1 + 1 + 1 + 1 + 1 + 1 + 1 + 1 + 1 + 1 + 1 + 1 + 1 + 1 + 1 + 1 + 1 + 1 + 1 + 1 + 1 + 1 + 1 := by rw [hX21, alloc_size, s20]
  have B21 : Below X20.heap.size X20 X21 := by rw [hX21]; exact (Below.refl _ _).alloc (Nat.le_refl _) _
  rw [← hX21] at hX
  clear hX21
  obtain ⟨X22, hX22⟩ : ∃ X, X = X21.alloc (.cells #[.string ⟨#[88, 45, 87, 104, 111]⟩, .string ⟨#[45]⟩] 53) := ⟨_, rfl⟩
  have R22 : Row X22 (w.heap.size + 1 + 1 + 1 + 1 + 1 + 1 + 1 + 1 + 1 + 1 + 1 + 1 + 1 + 1 + 1 + 1 + 1 + 1 + 1 + 1 + 1 + 1 + 1 + 1 + 1 + 1 + 1) #[.string ⟨#[88, 45, 87, 104, 111]⟩, .string ⟨#[45]⟩] 53 := by
    have h := row_new X21 #[.string ⟨#[88, 45, 87, 104, 111]⟩, .string ⟨#[45]⟩] 53
    rw [← hX22, s21] at h
    exact h
  have s22 : X22.heap.size = w.heap.size + 1 + 1 + 1 + 1 + 1 + 1 + 1 + 1 + 1 + 1 + 1 + 1 + 1 + 1 + 1 + 1 + 1 + 1 + 1 + 1 + 1 + 1 + 1 + 1 + 1 + 1 + 1 + 1 := by rw [hX22, alloc_size, s21]
  have B22 : Below X21.heap.size X21 X22 := by rw [hX22]; exact (Below.refl _ _).alloc (Nat.le_refl _) _
  rw [← hX22] at hX
  clear hX22
  obtain ⟨X23, hX23⟩ : ∃ X, X = X22.alloc (.cells #[.slice (some ⟨w.heap.size + 1 + 1 + 1 + 1 + 1 + 1, 0, none⟩) 2 2, .string ⟨#[]⟩, .string ⟨#[47, 120]⟩, .string ⟨#[]⟩, .int .i64 0, .slice none 0 0, .string ⟨#[]⟩, .bool false, .int .i64 200, .slice (some ⟨w.heap.size + 1 + 1 + 1 + 1 + 1 + 1 + 1, 0, none⟩) 2 2, .string ⟨#[47, 120]⟩, .slice (some ⟨w.heap.size + 1 + 1 + 1 + 1 + 1 + 1 + 1 + 1, 0, none⟩) 2 2, .string ⟨#[]⟩, .string ⟨#[47, 120]⟩, .string ⟨#[]⟩, .int .i64 0, .slice (some ⟨w.heap.size + 1 + 1 + 1 + 1 + 1 + 1 + 1 + 1 + 1, 0, none⟩) 1 1, .string ⟨#[]⟩, .bool false, .int .i64 200, .slice (some ⟨w.heap.size + 1 + 1 + 1 + 1 + 1 + 1 + 1 + 1 + 1 + 1, 0, none⟩) 1 1, .string ⟨#[47, 120]⟩, .slice (some ⟨w.heap.size + 1 + 1 + 1 + 1 + 1 + 1 + 1 + 1 + 1 + 1 + 1, 0, none⟩) 2 2, .string ⟨#[]⟩, .string ⟨#[47, 120]⟩, .string ⟨#[]⟩, .int .i64 0, .slice (some ⟨w.heap.size + 1 + 1 + 1 + 1 + 1 + 1 + 1 + 1 + 1 + 1 + 1 + 1, 0, none⟩) 2 2, .string ⟨#[]⟩, .bool false, .int .i64 403, .slice none 0 0, .string ⟨#[102, 111, 114, 98, 105, 100, 100, 101, 110]⟩, .slice (some ⟨w.heap.size + 1 + 1 + 1 + 1 + 1 + 1 + 1 + 1 + 1 + 1 + 1 + 1 + 1, 0, none⟩) 2 2, .string ⟨#[]⟩, .string ⟨#[47, 120]⟩, .string ⟨#[]⟩, .int .i64 0, .slice none 0 0, .string ⟨#[]⟩, .bool false, .int .i64 403, .slice none 0 0, .string ⟨#[102, 111, 114, 98, 105, 100, 100, 101, 110]⟩, .slice (some ⟨w.heap.size + 1 + 1 + 1 + 1 + 1 + 1 + 1 + 1 + 1 + 1 + 1 + 1 + 1 + 1, 0, none⟩) 2 2, .string ⟨#[]⟩, .string ⟨#[47, 97, 112, 105, 47, 120]⟩, .string ⟨#[]⟩, .int .i64 0, .slice none 0 0, .string ⟨#[]⟩, .bool false, .int .i64 200, .slice (some ⟨w.heap.size + 1 + 1 + 1 + 1 + 1 + 1 + 1 + 1 + 1 + 1 + 1 + 1 + 1 + 1 + 1, 0, none⟩) 1 1, .string ⟨#[47, 120]⟩, .slice (some ⟨w.heap.size + 1 + 1 + 1 + 1 + 1 + 1 + 1 + 1 + 1 + 1 + 1 + 1 + 1 + 1 + 1 + 1, 0, none⟩) 2 2, .string ⟨#[]⟩, .string ⟨#[47, 97, 112, 105]⟩, .string ⟨#[]⟩, .int .i64 0, .slice none 0 0, .string ⟨#[]⟩, .bool false, .int .i64 200, .slice (some ⟨w.heap.size + 1 + 1 + 1 + 1 + 1 + 1 + 1 + 1 + 1 + 1 + 1 + 1 + 1 + 1 + 1 + 1 + 1, 0, none⟩) 1 1, .string ⟨#[47]⟩, .slice (some ⟨w.heap.size + 1 + 1 + 1 + 1 + 1 + 1 + 1 + 1 + 1 + 1 + 1 + 1 + 1 + 1 + 1 + 1 + 1 + 1, 0, none⟩) 2 2, .string ⟨#[]⟩, .string ⟨#[47, 97, 112, 105, 120]⟩, .string ⟨#[]⟩, .int .i64 0, .slice none 0 0, .string ⟨#[]⟩, .bool false, .int .i64 404, .slice (some ⟨w.heap.size + 1 + 1 + 1 + 1 + 1 + 1 + 1 + 1 + 1 + 1 + 1 + 1 + 1 + 1 + 1 + 1 + 1 + 1 + 1, 0, none⟩) 1 1, .string ⟨#[110, 111, 116, 32, 102, 111, 117, 110, 100]⟩, .slice (some ⟨w.heap.size + 1 + 1 + 1 + 1 + 1 + 1 + 1 + 1 + 1 + 1 + 1 + 1 + 1 + 1 + 1 + 1 + 1 + 1 + 1 + 1, 0, none⟩) 2 2, .string ⟨#[]⟩, .string ⟨#[47, 120]⟩, .string ⟨#[]⟩, .int .i64 0, .slice none 0 0, .string ⟨#[97, 98, 99]⟩, .bool false, .int .i64 413, .slice none 0 0, .string ⟨#[116, 111, 111, 32, 108, 111, 110, 103]⟩, .slice (some ⟨w.heap.size + 1 + 1 + 1 + 1 + 1 + 1 + 1 + 1 + 1 + 1 + 1 + 1 + 1 + 1 + 1 + 1 + 1 + 1 + 1 + 1 + 1, 0, none⟩) 2 2, .string ⟨#[]⟩, .string ⟨#[47, 120]⟩, .string ⟨#[]⟩, .int .i64 0, .slice none 0 0, .string ⟨#[97, 98, 99]⟩, .bool false, .int .i64 200, .slice (some ⟨w.heap.size + 1 + 1 + 1 + 1 + 1 + 1 + 1 + 1 + 1 + 1 + 1 + 1 + 1 + 1 + 1 + 1 + 1 + 1 + 1 + 1 + 1 + 1, 0, none⟩) 1 1, .string ⟨#[47, 120]⟩, .slice (some ⟨w.heap.size + 1 + 1 + 1 + 1 + 1 + 1 + 1 + 1 + 1 + 1 + 1 + 1 + 1 + 1 + 1 + 1 + 1 + 1 + 1 + 1 + 1 + 1 + 1, 0, none⟩) 1 1, .string ⟨#[]⟩, .string ⟨#[47, 120]⟩, .string ⟨#[]⟩, .int .i64 0, .slice (some ⟨w.heap.size + 1 + 1 + 1 + 1 + 1 + 1 + 1 + 1 + 1 + 1 + 1 + 1 + 1 + 1 + 1 + 1 + 1 + 1 + 1 + 1 + 1 + 1 + 1 + 1, 0, none⟩) 1 1, .string ⟨#[]⟩, .bool false, .int .i64 200, .slice (some ⟨w.heap.size + 1 + 1 + 1 + 1 + 1 + 1 + 1 + 1 + 1 + 1 + 1 + 1 + 1 + 1 + 1 + 1 + 1 + 1 + 1 + 1 + 1 + 1 + 1 + 1 + 1, 0, none⟩) 1 1, .string ⟨#[47, 120]⟩, .slice (some ⟨w.heap.size + 1 + 1 + 1 + 1 + 1 + 1 + 1 + 1 + 1 + 1 + 1 + 1 + 1 + 1 + 1 + 1 + 1 + 1 + 1 + 1 + 1 + 1 + 1 + 1 + 1 + 1, 0, none⟩) 1 1, .string ⟨#[]⟩, .string ⟨#[47, 120]⟩, .string ⟨#[]⟩, .int .i64 0, .slice none 0 0, .string ⟨#[]⟩, .bool false, .int .i64 200, .slice (some ⟨w.heap.size + 1 + 1 + 1 + 1 + 1 + 1 + 1 + 1 + 1 + 1 + 1 + 1 + 1 + 1 + 1 + 1 + 1 + 1 + 1 + 1 + 1 + 1 + 1 + 1 + 1 + 1 + 1, 0, none⟩) 1 1, .string ⟨#[47, 120]⟩, .slice none 0 0, .string ⟨#[]⟩, .string ⟨#[47, 120]⟩, .string ⟨#[]⟩, .int .i64 0, .slice none 0 0, .string ⟨#[]⟩, .bool false, .int .i64 200, .slice none 0 0, .string ⟨#[47, 120]⟩] 54) := ⟨_, rfl⟩
  have R23 : Row X23 (w.heap.size + 1 + 1 + 1 + 1 + 1 + 1 + 1 + 1 + 1 + 1 + 1 + 1 + 1 + 1 + 1 + 1 + 1 + 1 + 1 + 1 + 1 + 1 + 1 + 1 + 1 + 1 + 1 + 1) #[.slice (some ⟨w.heap.size + 1 + 1 + 1 + 1 + 1 + 1, 0, none⟩) 2 2, .string ⟨#[]⟩, .string ⟨#[47, 120]⟩, .string ⟨#[]⟩, .int .i64 0, .slice none 0 0, .string ⟨#[]⟩, .bool false, .int .i64 200, .slice (some ⟨w.heap.size + 1 + 1 + 1 + 1 + 1 + 1 + 1, 0, none⟩) 2 2, .string ⟨#[47, 120]⟩, .slice (some ⟨w.heap.size + 1 + 1 + 1 + 1 + 1 + 1 + 1 + 1, 0, none⟩) 2 2, .string ⟨#[]⟩, .string ⟨#[47, 120]⟩, .string ⟨#[]⟩, .int .i64 0, .slice (some ⟨w.heap.size + 1 + 1 + 1 + 1 + 1 + 1 + 1 + 1 + 1, 0, none⟩) 1 1, .string ⟨#[]⟩, .bool false, .int .i64 200, .slice (some ⟨w.heap.size + 1 + 1 + 1 + 1 + 1 + 1 + 1 + 1 + 1 + 1, 0, none⟩) 1 1, .string ⟨#[47, 120]⟩, .slice (some ⟨w.heap.size + 1 + 1 + 1 + 1 + 1 + 1 + 1 + 1 + 1 + 1 + 1, 0, none⟩) 2 2, .string ⟨#[]⟩, .string ⟨#[47, 120]⟩, .string ⟨#[]⟩, .int .i64 0, .slice (some ⟨w.heap.size + 1 + 1 + 1 + 1 + 1 + 1 + 1 + 1 + 1 + 1 + 1 + 1, 0, none⟩) 2 2, .string ⟨#[]⟩, .bool false, .int .i64 403, .slice none 0 0, .string ⟨#[102, 111, 114, 98, 105, 100, 100, 101, 110]⟩, .slice (some ⟨w.heap.size + 1 + 1 + 1 + 1 + 1 + 1 + 1 + 1 + 1 + 1 + 1 + 1 + 1, 0, none⟩) 2 2, .string ⟨#[]⟩, .string ⟨#[47, 120]⟩, .string ⟨#[]⟩, .int .i64 0, .slice none 0 0, .string ⟨#[]⟩, .bool false, .int .i64 403, .slice none 0 0, .string ⟨#[102, 111, 114, 98, 105, 100, 100, 101, 110]⟩, .slice (some ⟨w.heap.size + 1 + 1 + 1 + 1 + 1 + 1 + 1 + 1 + 1 + 1 + 1 + 1 + 1 + 1, 0, none⟩) 2 2, .string ⟨#[]⟩, .string ⟨#[47, 97, 112, 105, 47, 120]⟩, .string ⟨#[]⟩, .int .i64 0, .slice none 0 0, .string ⟨#[]⟩, .bool false, .int .i64 200, .slice (some ⟨w.heap.size + 1 + 1 + 1 + 1 + 1 + 1 + 1 + 1 + 1 + 1 + 1 + 1 + 1 + 1 + 1, 0, none⟩) 1 1, .string ⟨#[47, 120]⟩, .slice (some ⟨w.heap.size + 1 + 1 + 1 + 1 + 1 + 1 + 1 + 1 + 1 + 1 + 1 + 1 + 1 + 1 + 1 + 1, 0, none⟩) 2 2, .string ⟨#[]⟩, .string ⟨#[47, 97, 112, 105]⟩, .string ⟨#[]⟩, .int .i64 0, .slice none 0 0, .string ⟨#[]⟩, .bool false, .int .i64 200, .slice (some ⟨w.heap.size + 1 + 1 + 1 + 1 + 1 + 1 + 1 + 1 + 1 + 1 + 1 + 1 + 1 + 1 + 1 + 1 + 1, 0, none⟩) 1 1, .string ⟨#[47]⟩, .slice (some ⟨w.heap.size + 1 + 1 + 1 + 1 + 1 + 1 + 1 + 1 + 1 + 1 + 1 + 1 + 1 + 1 + 1 + 1 + 1 + 1, 0, none⟩) 2 2, .string ⟨#[]⟩, .string ⟨#[47, 97, 112, 105, 120]⟩, .string ⟨#[]⟩, .int .i64 0, .slice none 0 0, .string ⟨#[]⟩, .bool false, .int .i64 404, .slice (some ⟨w.heap.size + 1 + 1 + 1 + 1 + 1 + 1 + 1 + 1 + 1 + 1 + 1 + 1 + 1 + 1 + 1 + 1 + 1 + 1 + 1, 0, none⟩) 1 1, .string ⟨#[110, 111, 116, 32, 102, 111, 117, 110, 100]⟩, .slice (some ⟨w.heap.size + 1 + 1 + 1 + 1 + 1 + 1 + 1 + 1 + 1 + 1 + 1 + 1 + 1 + 1 + 1 + 1 + 1 + 1 + 1 + 1, 0, none⟩) 2 2, .string ⟨#[]⟩, .string ⟨#[47, 120]⟩, .string ⟨#[]⟩, .int .i64 0, .slice none 0 0, .string ⟨#[97, 98, 99]⟩, .bool false, .int .i64 413, .slice none 0 0, .string ⟨#[116, 111, 111, 32, 108, 111, 110, 103]⟩, .slice (some ⟨w.heap.size + 1 + 1 + 1 + 1 + 1 + 1 + 1 + 1 + 1 + 1 + 1 + 1 + 1 + 1 + 1 + 1 + 1 + 1 + 1 + 1 + 1, 0, none⟩) 2 2, .string ⟨#[]⟩, .string ⟨#[47, 120]⟩, .string ⟨#[]⟩, .int .i64 0, .slice none 0 0, .string ⟨#[97, 98, 99]⟩, .bool false, .int .i64 200, .slice (some ⟨w.heap.size + 1 + 1 + 1 + 1 + 1 + 1 + 1 + 1 + 1 + 1 + 1 + 1 + 1 + 1 + 1 + 1 + 1 + 1 + 1 + 1 + 1 + 1, 0, none⟩) 1 1, .string ⟨#[47, 120]⟩, .slice (some ⟨w.heap.size + 1 + 1 + 1 + 1 + 1 + 1 + 1 + 1 + 1 + 1 + 1 + 1 + 1 + 1 + 1 + 1 + 1 + 1 + 1 + 1 + 1 + 1 + 1, 0, none⟩) 1 1, .string ⟨#[]⟩, .string ⟨#[47, 120]⟩, .string ⟨#[]⟩, .int .i64 0, .slice (some ⟨w.heap.size + 1 + 1 + 1 + 1 + 1 + 1 + 1 + 1 + 1 + 1 + 1 + 1 + 1 + 1 + 1 + 1 + 1 + 1 + 1 + 1 + 1 + 1 + 1 + 1, 0, none⟩) 1 1, .string ⟨#[]⟩, .bool false, .int .i64 200, .slice (some ⟨w.heap.size + 1 + 1 + 1 + 1 + 1 + 1 + 1 + 1 + 1 + 1 + 1 + 1 + 1 + 1 + 1 + 1 + 1 + 1 + 1 + 1 + 1 + 1 + 1 + 1 + 1, 0, none⟩) 1 1, .string ⟨#[47, 120]⟩, .slice (some ⟨w.heap.size + 1 + 1 + 1 + 1 + 1 + 1 + 1 + 1 + 1 + 1 + 1 + 1 + 1 + 1 + 1 + 1 + 1 + 1 + 1 + 1 + 1 + 1 + 1 + 1 + 1 + 1, 0, none⟩) 1 1, .string ⟨#[]⟩, .string ⟨#[47, 120]⟩, .string ⟨#[]⟩, .int .i64 0, .slice none 0 0, .string ⟨#[]⟩, .bool false, .int .i64 200, .slice (some ⟨w.heap.size + 1 + 1 + 1 + 1 + 1 + 1 + 1 + 1 + 1 + 1 + 1 + 1 + 1 + 1 + 1 + 1 + 1 + 1 + 1 + 1 + 1 + 1 + 1 + 1 + 1 + 1 + 1, 0, none⟩) 1 1, .string ⟨#[47, 120]⟩, .slice none 0 0, .string ⟨#[]⟩, .string ⟨#[47, 120]⟩, .string ⟨#[]⟩, .int .i64 0, .slice none 0 0, .string ⟨#[]⟩, .bool false, .int .i64 200, .slice none 0 0, .string ⟨#[47, 120]⟩] 54 := by
    have h := row_new X22 #[.slice (some ⟨w.heap.size + 1 + 1 + 1 + 1 + 1 + 1, 0, none⟩) 2 2, .string ⟨#[]⟩, .string ⟨#[47, 120]⟩, .string ⟨#[]⟩, .int .i64 0, .slice none 0 0, .string ⟨#[]⟩, .bool false, .int .i64 200, .slice (some ⟨w.heap.size + 1 + 1 + 1 + 1 + 1 + 1 + 1, 0, none⟩) 2 2, .string ⟨#[47, 120]⟩, .slice (some ⟨w.heap.size + 1 + 1 + 1 + 1 + 1 + 1 + 1 + 1, 0, none⟩) 2 2, .string ⟨#[]⟩, .string ⟨#[47, 120]⟩, .string ⟨#[]⟩, .int .i64 0, .slice (some ⟨w.heap.size + 1 + 1 + 1 + 1 + 1 + 1 + 1 + 1 + 1, 0, none⟩) 1 1, .string ⟨#[]⟩, .bool false, .int .i64 200, .slice (some ⟨w.heap.size + 1 + 1 + 1 + 1 + 1 + 1 + 1 + 1 + 1 + 1, 0, none⟩) 1 1, .string ⟨#[47, 120]⟩, .slice (some ⟨w.heap.size + 1 + 1 + 1 + 1 + 1 + 1 + 1 + 1 + 1 + 1 + 1, 0, none⟩) 2 2, .string ⟨#[]⟩, .string ⟨#[47, 120]⟩, .string ⟨#[]⟩, .int .i64 0, .slice (some ⟨w.heap.size + 1 + 1 + 1 + 1 + 1 + 1 + 1 + 1 + 1 + 1 + 1 + 1, 0, none⟩) 2 2, .string ⟨#[]⟩, .bool false, .int .i64 403, .slice none 0 0, .string ⟨#[102, 111, 114, 98, 105, 100, 100, 101, 110]⟩, .slice (some ⟨w.heap.size + 1 + 1 + 1 + 1 + 1 + 1 + 1 + 1 + 1 + 1 + 1 + 1 + 1, 0, none⟩) 2 2, .string ⟨#[]⟩, .string ⟨#[47, 120]⟩, .string ⟨#[]⟩, .int .i64 0, .slice none 0 0, .string ⟨#[]⟩, .bool false, .int .i64 403, .slice none 0 0, .string ⟨#[102, 111, 114, 98, 105, 100, 100, 101, 110]⟩, .slice (some ⟨w.heap.size + 1 + 1 + 1 + 1 + 1 + 1 + 1 + 1 + 1 + 1 + 1 + 1 + 1 + 1, 0, none⟩) 2 2, .string ⟨#[]⟩, .string ⟨#[47, 97, 112, 105, 47, 120]⟩, .string ⟨#[]⟩, .int .i64 0, .slice none 0 0, .string ⟨#[]⟩, .bool false, .int .i64 200, .slice (some ⟨w.heap.size + 1 + 1 + 1 + 1 + 1 + 1 + 1 + 1 + 1 + 1 + 1 + 1 + 1 + 1 + 1, 0, none⟩) 1 1, .string ⟨#[47, 120]⟩, .slice (some ⟨w.heap.size + 1 + 1 + 1 + 1 + 1 + 1 + 1 + 1 + 1 + 1 + 1 + 1 + 1 + 1 + 1 + 1, 0, none⟩) 2 2, .string ⟨#[]⟩, .string ⟨#[47, 97, 112, 105]⟩, .string ⟨#[]⟩, .int .i64 0, .slice none 0 0, .string ⟨#[]⟩, .bool false, .int .i64 200, .slice (some ⟨w.heap.size + 1 + 1 + 1 + 1 + 1 + 1 + 1 + 1 + 1 + 1 + 1 + 1 + 1 + 1 + 1 + 1 + 1, 0, none⟩) 1 1, .string ⟨#[47]⟩, .slice (some ⟨w.heap.size + 1 + 1 + 1 + 1 + 1 + 1 + 1 + 1 + 1 + 1 + 1 + 1 + 1 + 1 + 1 + 1 + 1 + 1, 0, none⟩) 2 2, .string ⟨#[]⟩, .string ⟨#[47, 97, 112, 105, 120]⟩, .string ⟨#[]⟩, .int .i64 0, .slice none 0 0, .string ⟨#[]⟩, .bool false, .int .i64 404, .slice (some ⟨w.heap.size + 1 + 1 + 1 + 1 + 1 + 1 + 1 + 1 + 1 + 1 + 1 + 1 + 1 + 1 + 1 + 1 + 1 + 1 + 1, 0, none⟩) 1 1, .string ⟨#[110, 111, 116, 32, 102, 111, 117, 110, 100]⟩, .slice (some ⟨w.heap.size + 1 + 1 + 1 + 1 + 1 + 1 + 1 + 1 + 1 + 1 + 1 + 1 + 1 + 1 + 1 + 1 + 1 + 1 + 1 + 1, 0, none⟩) 2 2, .string ⟨#[]⟩, .string ⟨#[47, 120]⟩, .string ⟨#[]⟩, .int .i64 0, .slice none 0 0, .string ⟨#[97, 98, 99]⟩, .bool false, .int .i64 413, .slice none 0 0, .string ⟨#[116, 111, 111, 32, 108, 111, 110, 103]⟩, .slice (some ⟨w.heap.size + 1 + 1 + 1 + 1 + 1 + 1 + 1 + 1 + 1 + 1 + 1 + 1 + 1 + 1 + 1 + 1 + 1 + 1 + 1 + 1 + 1, 0, none⟩) 2 2, .string ⟨#[]⟩, .string ⟨#[47, 120]⟩, .string ⟨#[]⟩, .int .i64 0, .slice none 0 0, .string ⟨#[97, 98, 99]⟩, .bool false, .int .i64 200, .slice (some ⟨w.heap.size + 1 + 1 + 1 + 1 + 1 + 1 + 1 + 1 + 1 + 1 + 1 + 1 + 1 + 1 + 1 + 1 + 1 + 1 + 1 + 1 + 1 + 1, 0, none⟩) 1 1, .string ⟨#[47, 120]⟩, .slice (some ⟨w.heap.size + 1 + 1 + 1 + 1 + 1 + 1 + 1 + 1 + 1 + 1 + 1 + 1 + 1 + 1 + 1 + 1 + 1 + 1 + 1 + 1 + 1 + 1 + 1, 0, none⟩) 1 1, .string ⟨#[]⟩, .string ⟨#[47, 120]⟩, .string ⟨#[]⟩, .int .i64 0, .slice (some ⟨w.heap.size + 1 + 1 + 1 + 1 + 1 + 1 + 1 + 1 + 1 + 1 + 1 + 1 + 1 + 1 + 1 + 1 + 1 + 1 + 1 + 1 + 1 + 1 + 1 + 1, 0, none⟩) 1 1, .string ⟨#[]⟩, .bool false, .int .i64 200, .slice (some ⟨w.heap.size + 1 + 1 + 1 + 1 + 1 + 1 + 1 + 1 + 1 + 1 + 1 + 1 + 1 + 1 + 1 + 1 + 1 + 1 + 1 + 1 + 1 + 1 + 1 + 1 + 1, 0, none⟩) 1 1, .string ⟨#[47, 120]⟩, .slice (some ⟨w.heap.size + 1 + 1 + 1 + 1 + 1 + 1 + 1 + 1 + 1 + 1 + 1 + 1 + 1 + 1 + 1 + 1 + 1 + 1 + 1 + 1 + 1 + 1 + 1 + 1 + 1 + 1, 0, none⟩) 1 1, .string ⟨#[]⟩, .string ⟨#[47, 120]⟩, .string ⟨#[]⟩, .int .i64 0, .slice none 0 0, .string ⟨#[]⟩, .bool false, .int .i64 200, .slice (some ⟨w.heap.size + 1 + 1 + 1 + 1 + 1 + 1 + 1 + 1 + 1 + 1 + 1 + 1 + 1 + 1 + 1 + 1 + 1 + 1 + 1 + 1 + 1 + 1 + 1 + 1 + 1 + 1 + 1, 0, none⟩) 1 1, .string ⟨#[47, 120]⟩, .slice none 0 0, .string ⟨#[]⟩, .string ⟨#[47, 120]⟩, .string ⟨#[]⟩, .int .i64 0, .slice none 0 0, .string ⟨#[]⟩, .bool false, .int .i64 200, .slice none 0 0, .string ⟨#[47, 120]⟩] 54
    rw [← hX23, s22] at h
    exact h
  have s23 : X23.heap.size = w.heap.size + 1 + 1 + 1 + 1 + 1 + 1 + 1 + 1 + 1 + 1 + 1 + 1 + 1 + 1 + 1 + 1 + 1 + 1 + 1 + 1 + 1 + 1 + 1 + 1 + 1 + 1 + 1 + 1 + 1 := by rw [hX23, alloc_size, s22]
  have B23 : Below X22.heap.size X22 X23 := by rw [hX23]; exact (Below.refl _ _).alloc (Nat.le_refl _) _
  rw [← hX23] at hX
  clear hX23
  rw [hX]
  clear hX
  have E23 : Below X23.heap.size X23 X23 := Below.refl _ _
  have E22 : Below X22.heap.size X22 X23 := B23.trans (E23.mono B23.size)
  have E21 : Below X21.heap.size X21 X23 := B22.trans (E22.mono B22.size)
  have E20 : Below X20.heap.size X20 X23 := B21.trans (E21.mono B21.size)
  have E19 : Below X19.heap.size X19 X23 := B20.trans (E20.mono B20.size)
  have E18 : Below X18.heap.size X18 X23 := B19.trans (E19.mono B19.size)
  have E17 : Below X17.heap.size X17 X23 := B18.trans (E18.mono B18.size)
  have E16 : Below X16.heap.size X16 X23 := B17.trans (E17.mono B17.size)
  have E15 : Below X15.heap.size X15 X23 := B16.trans (E16.mono B16.size)
  have E14 : Below X14.heap.size X14 X23 := B15.trans (E15.mono B15.size)
  have E13 : Below X13.heap.size X13 X23 := B14.trans (E14.mono B14.size)
  have E12 : Below X12.heap.size X12 X23 := B13.trans (E13.mono B13.size)
  have E11 : Below X11.heap.size X11 X23 := B12.trans (E12.mono B12.size)
  have E10 : Below X10.heap.size X10 X23 := B11.trans (E11.mono B11.size)
  have E9 : Below X9.heap.size X9 X23 := B10.trans (E10.mono B10.size)
  have E8 : Below X8.heap.size X8 X23 := B9.trans (E9.mono B9.size)
  have E7 : Below X7.heap.size X7 X23 := B8.trans (E8.mono B8.size)
  have E6 : Below X6.heap.size X6 X23 := B7.trans (E7.mono B7.size)
  have E5 : Below X5.heap.size X5 X23 := B6.trans (E6.mono B6.size)
  have E4 : Below X4.heap.size X4 X23 := B5.trans (E5.mono B5.size)
  have E3 : Below X3.heap.size X3 X23 := B4.trans (E4.mono B4.size)
  have E2 : Below X2.heap.size X2 X23 := B3.trans (E3.mono B3.size)
  have E1 : Below X1.heap.size X1 X23 := B2.trans (E2.mono B2.size)
  have E0 : Below X0.heap.size X0 X23 := B1.trans (E1.mono B1.size)
  refine ⟨V0.below E0, fun i hi => ?_⟩
  have hc : i = 0 ∨ i = 1 ∨ i = 2 ∨ i = 3 ∨ i = 4 ∨ i = 5 ∨ i = 6 ∨ i = 7 ∨ i = 8 ∨ i = 9 ∨ i = 10 ∨ i = 11 := by omega
  rcases hc with rfl | rfl | rfl | rfl | rfl | rfl | rfl | rfl | rfl | rfl | rfl | rfl
  · exact ⟨[⟨1, [65], [49], 0⟩, ⟨1, [66], [50], 0⟩], ⟨[], [47, 120], [], 0, [], [], false⟩, (200, [47, 120], [([66], [50]), ([65], [49])]), .slice (some ⟨w.heap.size + 1 + 1 + 1 + 1 + 1 + 1, 0, none⟩) 2 2, .slice none 0 0, .slice (some ⟨w.heap.size + 1 + 1 + 1 + 1 + 1 + 1 + 1, 0, none⟩) 2 2, w.heap.size + 1 + 1 + 1 + 1 + 1 + 1, 0, w.heap.size + 1 + 1 + 1 + 1 + 1 + 1 + 1, rfl, sta_row (l := [⟨1, [65], [49], 0⟩, ⟨1, [66], [50], 0⟩]) (n := 2) (c := 2) (R1.below E1 R1.lt) rfl rfl (Nat.le_refl _), fa_nil X23 none 0, fa_row (fs := [([66], [50]), ([65], [49])]) (n := 2) (c := 2) (R2.below E2 R2.lt) rfl rfl, cell_of_row X23 _ 0 _ _ (0, 0) R23, cell_of_row X23 _ 1 _ _ (0, 0) R23, cell_of_row X23 _ 2 _ _ (0, 0) R23, cell_of_row X23 _ 3 _ _ (0, 0) R23, cell_of_row X23 _ 4 _ _ (0, 0) R23, cell_of_row X23 _ 5 _ _ (0, 0) R23, cell_of_row X23 _ 6 _ _ (0, 0) R23, cell_of_row X23 _ 7 _ _ (0, 0) R23, cell_of_row X23 _ 8 _ _ (0, 0) R23, cell_of_row X23 _ 9 _ _ (0, 0) R23, cell_of_row X23 _ 10 _ _ (0, 0) R23⟩
  · exact ⟨[⟨2, [75], [118], 0⟩, ⟨1, [65], [49], 0⟩], ⟨[], [47, 120], [], 0, [([107], [118])], [], false⟩, (200, [47, 120], [([65], [49])]), .slice (some ⟨w.heap.size + 1 + 1 + 1 + 1 + 1 + 1 + 1 + 1, 0, none⟩) 2 2, .slice (some ⟨w.heap.size + 1 + 1 + 1 + 1 + 1 + 1 + 1 + 1 + 1, 0, none⟩) 1 1, .slice (some ⟨w.heap.size + 1 + 1 + 1 + 1 + 1 + 1 + 1 + 1 + 1 + 1, 0, none⟩) 1 1, w.heap.size + 1 + 1 + 1 + 1 + 1 + 1 + 1 + 1, w.heap.size + 1 + 1 + 1 + 1 + 1 + 1 + 1 + 1 + 1, w.heap.size + 1 + 1 + 1 + 1 + 1 + 1 + 1 + 1 + 1 + 1, rfl, sta_row (l := [⟨2, [75], [118], 0⟩, ⟨1, [65], [49], 0⟩]) (n := 2) (c := 2) (R3.below E3 R3.lt) rfl rfl (Nat.le_refl _), fa_row (fs := [([107], [118])]) (n := 1) (c := 1) (R4.below E4 R4.lt) rfl rfl, fa_row (fs := [([65], [49])]) (n := 1) (c := 1) (R5.below E5 R5.lt) rfl rfl, cell_of_row X23 _ 11 _ _ (0, 0) R23, cell_of_row X23 _ 12 _ _ (0, 0) R23, cell_of_row X23 _ 13 _ _ (0, 0) R23, cell_of_row X23 _ 14 _ _ (0, 0) R23, cell_of_row X23 _ 15 _ _ (0, 0) R23, cell_of_row X23 _ 16 _ _ (0, 0) R23, cell_of_row X23 _ 17 _ _ (0, 0) R23, cell_of_row X23 _ 18 _ _ (0, 0) R23, cell_of_row X23 _ 19 _ _ (0, 0) R23, cell_of_row X23 _ 20 _ _ (0, 0) R23, cell_of_row X23 _ 21 _ _ (0, 0) R23⟩
  · exact ⟨[⟨2, [75], [118], 0⟩, ⟨1, [65], [49], 0⟩], ⟨[], [47, 120], [], 0, [([75], [119]), ([107], [118])], [], false⟩, (403, [102, 111, 114, 98, 105, 100, 100, 101, 110], []), .slice (some ⟨w.heap.size + 1 + 1 + 1 + 1 + 1 + 1 + 1 + 1 + 1 + 1 + 1, 0, none⟩) 2 2, .slice (some ⟨w.heap.size + 1 + 1 + 1 + 1 + 1 + 1 + 1 + 1 + 1 + 1 + 1 + 1, 0, none⟩) 2 2, .slice none 0 0, w.heap.size + 1 + 1 + 1 + 1 + 1 + 1 + 1 + 1 + 1 + 1 + 1, w.heap.size + 1 + 1 + 1 + 1 + 1 + 1 + 1 + 1 + 1 + 1 + 1 + 1, 0, rfl, sta_row (l := [⟨2, [75], [118], 0⟩, ⟨1, [65], [49], 0⟩]) (n := 2) (c := 2) (R6.below E6 R6.lt) rfl rfl (Nat.le_refl _), fa_row (fs := [([75], [119]), ([107], [118])]) (n := 2) (c := 2) (R7.below E7 R7.lt) rfl rfl, fa_nil X23 none 0, cell_of_row X23 _ 22 _ _ (0, 0) R23, cell_of_row X23 _ 23 _ _ (0, 0) R23, cell_of_row X23 _ 24 _ _ (0, 0) R23, cell_of_row X23 _ 25 _ _ (0, 0) R23, cell_of_row X23 _ 26 _ _ (0, 0) R23, cell_of_row X23 _ 27 _ _ (0, 0) R23, cell_of_row X23 _ 28 _ _ (0, 0) R23, cell_of_row X23 _ 29 _ _ (0, 0) R23, cell_of_row X23 _ 30 _ _ (0, 0) R23, cell_of_row X23 _ 31 _ _ (0, 0) R23, cell_of_row X23 _ 32 _ _ (0, 0) R23⟩
  · exact ⟨[⟨2, [75], [118], 0⟩, ⟨1, [65], [49], 0⟩], ⟨[], [47, 120], [], 0, [], [], false⟩, (403, [102, 111, 114, 98, 105, 100, 100, 101, 110], []), .slice (some ⟨w.heap.size + 1 + 1 + 1 + 1 + 1 + 1 + 1 + 1 + 1 + 1 + 1 + 1 + 1, 0, none⟩) 2 2, .slice none 0 0, .slice none 0 0, w.heap.size + 1 + 1 + 1 + 1 + 1 + 1 + 1 + 1 + 1 + 1 + 1 + 1 + 1, 0, 0, rfl, sta_row (l := [⟨2, [75], [118], 0⟩, ⟨1, [65], [49], 0⟩]) (n := 2) (c := 2) (R8.below E8 R8.lt) rfl rfl (Nat.le_refl _), fa_nil X23 none 0, fa_nil X23 none 0, cell_of_row X23 _ 33 _ _ (0, 0) R23, cell_of_row X23 _ 34 _ _ (0, 0) R23, cell_of_row X23 _ 35 _ _ (0, 0) R23, cell_of_row X23 _ 36 _ _ (0, 0) R23, cell_of_row X23 _ 37 _ _ (0, 0) R23, cell_of_row X23 _ 38 _ _ (0, 0) R23, cell_of_row X23 _ 39 _ _ (0, 0) R23, cell_of_row X23 _ 40 _ _ (0, 0) R23, cell_of_row X23 _ 41 _ _ (0, 0) R23, cell_of_row X23 _ 42 _ _ (0, 0) R23, cell_of_row X23 _ 43 _ _ (0, 0) R23⟩
  · exact ⟨[⟨1, [65], [49], 0⟩, ⟨4, [], [47, 97, 112, 105], 0⟩], ⟨[], [47, 97, 112, 105, 47, 120], [], 0, [], [], false⟩, (200, [47, 120], [([65], [49])]), .slice (some ⟨w.heap.size + 1 + 1 + 1 + 1 + 1 + 1 + 1 + 1 + 1 + 1 + 1 + 1 + 1 + 1, 0, none⟩) 2 2, .slice none 0 0, .slice (some ⟨w.heap.size + 1 + 1 + 1 + 1 + 1 + 1 + 1 + 1 + 1 + 1 + 1 + 1 + 1 + 1 + 1, 0, none⟩) 1 1, w.heap.size + 1 + 1 + 1 + 1 + 1 + 1 + 1 + 1 + 1 + 1 + 1 + 1 + 1 + 1, 0, w.heap.size + 1 + 1 + 1 + 1 + 1 + 1 + 1 + 1 + 1 + 1 + 1 + 1 + 1 + 1 + 1, rfl, sta_row (l := [⟨1, [65], [49], 0⟩, ⟨4, [], [47, 97, 112, 105], 0⟩]) (n := 2) (c := 2) (R9.below E9 R9.lt) rfl rfl (Nat.le_refl _), fa_nil X23 none 0, fa_row (fs := [([65], [49])]) (n := 1) (c := 1) (R10.below E10 R10.lt) rfl rfl, cell_of_row X23 _ 44 _ _ (0, 0) R23, cell_of_row X23 _ 45 _ _ (0, 0) R23, cell_of_row X23 _ 46 _ _ (0, 0) R23, cell_of_row X23 _ 47 _ _ (0, 0) R23, cell_of_row X23 _ 48 _ _ (0, 0) R23, cell_of_row X23 _ 49 _ _ (0, 0) R23, cell_of_row X23 _ 50 _ _ (0, 0) R23, cell_of_row X23 _ 51 _ _ (0, 0) R23, cell_of_row X23 _ 52 _ _ (0, 0) R23, cell_of_row X23 _ 53 _ _ (0, 0) R23, cell_of_row X23 _ 54 _ _ (0, 0) R23⟩
  · exact ⟨[⟨1, [65], [49], 0⟩, ⟨4, [], [47, 97, 112, 105], 0⟩], ⟨[], [47, 97, 112, 105], [], 0, [], [], false⟩, (200, [47], [([65], [49])]), .slice (some ⟨w.heap.size + 1 + 1 + 1 + 1 + 1 + 1 + 1 + 1 + 1 + 1 + 1 + 1 + 1 + 1 + 1 + 1, 0, none⟩) 2 2, .slice none 0 0, .slice (some ⟨w.heap.size + 1 + 1 + 1 + 1 + 1 + 1 + 1 + 1 + 1 + 1 + 1 + 1 + 1 + 1 + 1 + 1 + 1, 0, none⟩) 1 1, w.heap.size + 1 + 1 + 1 + 1 + 1 + 1 + 1 + 1 + 1 + 1 + 1 + 1 + 1 + 1 + 1 + 1, 0, w.heap.size + 1 + 1 + 1 + 1 + 1 + 1 + 1 + 1 + 1 + 1 + 1 + 1 + 1 + 1 + 1 + 1 + 1, rfl, sta_row (l := [⟨1, [65], [49], 0⟩, ⟨4, [], [47, 97, 112, 105], 0⟩]) (n := 2) (c := 2) (R11.below E11 R11.lt) rfl rfl (Nat.le_refl _), fa_nil X23 none 0, fa_row (fs := [([65], [49])]) (n := 1) (c := 1) (R12.below E12 R12.lt) rfl rfl, cell_of_row X23 _ 55 _ _ (0, 0) R23, cell_of_row X23 _ 56 _ _ (0, 0) R23, cell_of_row X23 _ 57 _ _ (0, 0) R23, cell_of_row X23 _ 58 _ _ (0, 0) R23, cell_of_row X23 _ 59 _ _ (0, 0) R23, cell_of_row X23 _ 60 _ _ (0, 0) R23, cell_of_row X23 _ 61 _ _ (0, 0) R23, cell_of_row X23 _ 62 _ _ (0, 0) R23, cell_of_row X23 _ 63 _ _ (0, 0) R23, cell_of_row X23 _ 64 _ _ (0, 0) R23, cell_of_row X23 _ 65 _ _ (0, 0) R23⟩
  · exact ⟨[⟨1, [65], [49], 0⟩, ⟨4, [], [47, 97, 112, 105], 0⟩], ⟨[], [47, 97, 112, 105, 120], [], 0, [], [], false⟩, (404, [110, 111, 116, 32, 102, 111, 117, 110, 100], [([65], [49])]), .slice (some ⟨w.heap.size + 1 + 1 + 1 + 1 + 1 + 1 + 1 + 1 + 1 + 1 + 1 + 1 + 1 + 1 + 1 + 1 + 1 + 1, 0, none⟩) 2 2, .slice none 0 0, .slice (some ⟨w.heap.size + 1 + 1 + 1 + 1 + 1 + 1 + 1 + 1 + 1 + 1 + 1 + 1 + 1 + 1 + 1 + 1 + 1 + 1 + 1, 0, none⟩) 1 1, w.heap.size + 1 + 1 + 1 + 1 + 1 + 1 + 1 + 1 + 1 + 1 + 1 + 1 + 1 + 1 + 1 + 1 + 1 + 1, 0, w.heap.size + 1 + 1 + 1 + 1 + 1 + 1 + 1 + 1 + 1 + 1 + 1 + 1 + 1 + 1 + 1 + 1 + 1 + 1 + 1, rfl, sta_row (l := [⟨1, [65], [49], 0⟩, ⟨4, [], [47, 97, 112, 105], 0⟩]) (n := 2) (c := 2) (R13.below E13 R13.lt) rfl rfl (Nat.le_refl _), fa_nil X23 none 0, fa_row (fs := [([65], [49])]) (n := 1) (c := 1) (R14.below E14 R14.lt) rfl rfl, cell_of_row X23 _ 66 _ _ (0, 0) R23, cell_of_row X23 _ 67 _ _ (0, 0) R23, cell_of_row X23 _ 68 _ _ (0, 0) R23, cell_of_row X23 _ 69 _ _ (0, 0) R23, cell_of_row X23 _ 70 _ _ (0, 0) R23, cell_of_row X23 _ 71 _ _ (0, 0) R23, cell_of_row X23 _ 72 _ _ (0, 0) R23, cell_of_row X23 _ 73 _ _ (0, 0) R23, cell_of_row X23 _ 74 _ _ (0, 0) R23, cell_of_row X23 _ 75 _ _ (0, 0) R23, cell_of_row X23 _ 76 _ _ (0, 0) R23⟩
  · exact ⟨[⟨3, [], [], 2⟩, ⟨1, [65], [49], 0⟩], ⟨[], [47, 120], [], 0, [], [97, 98, 99], false⟩, (413, [116, 111, 111, 32, 108, 111, 110, 103], []), .slice (some ⟨w.heap.size + 1 + 1 + 1 + 1 + 1 + 1 + 1 + 1 + 1 + 1 + 1 + 1 + 1 + 1 + 1 + 1 + 1 + 1 + 1 + 1, 0, none⟩) 2 2, .slice none 0 0, .slice none 0 0, w.heap.size + 1 + 1 + 1 + 1 + 1 + 1 + 1 + 1 + 1 + 1 + 1 + 1 + 1 + 1 + 1 + 1 + 1 + 1 + 1 + 1, 0, 0, rfl, sta_row (l := [⟨3, [], [], 2⟩, ⟨1, [65], [49], 0⟩]) (n := 2) (c := 2) (R15.below E15 R15.lt) rfl rfl (Nat.le_refl _), fa_nil X23 none 0, fa_nil X23 none 0, cell_of_row X23 _ 77 _ _ (0, 0) R23, cell_of_row X23 _ 78 _ _ (0, 0) R23, cell_of_row X23 _ 79 _ _ (0, 0) R23, cell_of_row X23 _ 80 _ _ (0, 0) R23, cell_of_row X23 _ 81 _ _ (0, 0) R23, cell_of_row X23 _ 82 _ _ (0, 0) R23, cell_of_row X23 _ 83 _ _ (0, 0) R23, cell_of_row X23 _ 84 _ _ (0, 0) R23, cell_of_row X23 _ 85 _ _ (0, 0) R23, cell_of_row X23 _ 86 _ _ (0, 0) R23, cell_of_row X23 _ 87 _ _ (0, 0) R23⟩
  · exact ⟨[⟨3, [], [], 3⟩, ⟨1, [65], [49], 0⟩], ⟨[], [47, 120], [], 0, [], [97, 98, 99], false⟩, (200, [47, 120], [([65], [49])]), .slice (some ⟨w.heap.size + 1 + 1 + 1 + 1 + 1 + 1 + 1 + 1 + 1 + 1 + 1 + 1 + 1 + 1 + 1 + 1 + 1 + 1 + 1 + 1 + 1, 0, none⟩) 2 2, .slice none 0 0, .slice (some ⟨w.heap.size + 1 + 1 + 1 + 1 + 1 + 1 + 1 + 1 + 1 + 1 + 1 + 1 + 1 + 1 + 1 + 1 + 1 + 1 + 1 + 1 + 1 + 1, 0, none⟩) 1 1, w.heap.size + 1 + 1 + 1 + 1 + 1 + 1 + 1 + 1 + 1 + 1 + 1 + 1 + 1 + 1 + 1 + 1 + 1 + 1 + 1 + 1 + 1, 0, w.heap.size + 1 + 1 + 1 + 1 + 1 + 1 + 1 + 1 + 1 + 1 + 1 + 1 + 1 + 1 + 1 + 1 + 1 + 1 + 1 + 1 + 1 + 1, rfl, sta_row (l := [⟨3, [], [], 3⟩, ⟨1, [65], [49], 0⟩]) (n := 2) (c := 2) (R16.below E16 R16.lt) rfl rfl (Nat.le_refl _), fa_nil X23 none 0, fa_row (fs := [([65], [49])]) (n := 1) (c := 1) (R17.below E17 R17.lt) rfl rfl, cell_of_row X23 _ 88 _ _ (0, 0) R23, cell_of_row X23 _ 89 _ _ (0, 0) R23, cell_of_row X23 _ 90 _ _ (0, 0) R23, cell_of_row X23 _ 91 _ _ (0, 0) R23, cell_of_row X23 _ 92 _ _ (0, 0) R23, cell_of_row X23 _ 93 _ _ (0, 0) R23, cell_of_row X23 _ 94 _ _ (0, 0) R23, cell_of_row X23 _ 95 _ _ (0, 0) R23, cell_of_row X23 _ 96 _ _ (0, 0) R23, cell_of_row X23 _ 97 _ _ (0, 0) R23, cell_of_row X23 _ 98 _ _ (0, 0) R23⟩
  · exact ⟨[⟨5, [70, 114, 111, 109], [88, 45, 87, 104, 111], 0⟩], ⟨[], [47, 120], [], 0, [([70, 82, 79, 77], [109, 101])], [], false⟩, (200, [47, 120], [([88, 45, 87, 104, 111], [109, 101])]), .slice (some ⟨w.heap.size + 1 + 1 + 1 + 1 + 1 + 1 + 1 + 1 + 1 + 1 + 1 + 1 + 1 + 1 + 1 + 1 + 1 + 1 + 1 + 1 + 1 + 1 + 1, 0, none⟩) 1 1, .slice (some ⟨w.heap.size + 1 + 1 + 1 + 1 + 1 + 1 + 1 + 1 + 1 + 1 + 1 + 1 + 1 + 1 + 1 + 1 + 1 + 1 + 1 + 1 + 1 + 1 + 1 + 1, 0, none⟩) 1 1, .slice (some ⟨w.heap.size + 1 + 1 + 1 + 1 + 1 + 1 + 1 + 1 + 1 + 1 + 1 + 1 + 1 + 1 + 1 + 1 + 1 + 1 + 1 + 1 + 1 + 1 + 1 + 1 + 1, 0, none⟩) 1 1, w.heap.size + 1 + 1 + 1 + 1 + 1 + 1 + 1 + 1 + 1 + 1 + 1 + 1 + 1 + 1 + 1 + 1 + 1 + 1 + 1 + 1 + 1 + 1 + 1, w.heap.size + 1 + 1 + 1 + 1 + 1 + 1 + 1 + 1 + 1 + 1 + 1 + 1 + 1 + 1 + 1 + 1 + 1 + 1 + 1 + 1 + 1 + 1 + 1 + 1, w.heap.size + 1 + 1 + 1 + 1 + 1 + 1 + 1 + 1 + 1 + 1 + 1 + 1 + 1 + 1 + 1 + 1 + 1 + 1 + 1 + 1 + 1 + 1 + 1 + 1 + 1, rfl, sta_row (l := [⟨5, [70, 114, 111, 109], [88, 45, 87, 104, 111], 0⟩]) (n := 1) (c := 1) (R18.below E18 R18.lt) rfl rfl (Nat.le_refl _), fa_row (fs := [([70, 82, 79, 77], [109, 101])]) (n := 1) (c := 1) (R19.below E19 R19.lt) rfl rfl, fa_row (fs := [([88, 45, 87, 104, 111], [109, 101])]) (n := 1) (c := 1) (R20.below E20 R20.lt) rfl rfl, cell_of_row X23 _ 99 _ _ (0, 0) R23, cell_of_row X23 _ 100 _ _ (0, 0) R23, cell_of_row X23 _ 101 _ _ (0, 0) R23, cell_of_row X23 _ 102 _ _ (0, 0) R23, cell_of_row X23 _ 103 _ _ (0, 0) R23, cell_of_row X23 _ 104 _ _ (0, 0) R23, cell_of_row X23 _ 105 _ _ (0, 0) R23, cell_of_row X23 _ 106 _ _ (0, 0) R23, cell_of_row X23 _ 107 _ _ (0, 0) R23, cell_of_row X23 _ 108 _ _ (0, 0) R23, cell_of_row X23 _ 109 _ _ (0, 0) R23⟩
  · exact ⟨[⟨5, [70, 114, 111, 109], [88, 45, 87, 104, 111], 0⟩], ⟨[], [47, 120], [], 0, [], [], false⟩, (200, [47, 120], [([88, 45, 87, 104, 111], [45])]), .slice (some ⟨w.heap.size + 1 + 1 + 1 + 1 + 1 + 1 + 1 + 1 + 1 + 1 + 1 + 1 + 1 + 1 + 1 + 1 + 1 + 1 + 1 + 1 + 1 + 1 + 1 + 1 + 1 + 1, 0, none⟩) 1 1, .slice none 0 0, .slice (some ⟨w.heap.size + 1 + 1 + 1 + 1 + 1 + 1 + 1 + 1 + 1 + 1 + 1 + 1 + 1 + 1 + 1 + 1 + 1 + 1 + 1 + 1 + 1 + 1 + 1 + 1 + 1 + 1 + 1, 0, none⟩) 1 1, w.heap.size + 1 + 1 + 1 + 1 + 1 + 1 + 1 + 1 + 1 + 1 + 1 + 1 + 1 + 1 + 1 + 1 + 1 + 1 + 1 + 1 + 1 + 1 + 1 + 1 + 1 + 1, 0, w.heap.size + 1 + 1 + 1 + 1 + 1 + 1 + 1 + 1 + 1 + 1 + 1 + 1 + 1 + 1 + 1 + 1 + 1 + 1 + 1 + 1 + 1 + 1 + 1 + 1 + 1 + 1 + 1, rfl, sta_row (l := [⟨5, [70, 114, 111, 109], [88, 45, 87, 104, 111], 0⟩]) (n := 1) (c := 1) (R21.below E21 R21.lt) rfl rfl (Nat.le_refl _), fa_nil X23 none 0, fa_row (fs := [([88, 45, 87, 104, 111], [45])]) (n := 1) (c := 1) (R22.below E22 R22.lt) rfl rfl, cell_of_row X23 _ 110 _ _ (0, 0) R23, cell_of_row X23 _ 111 _ _ (0, 0) R23, cell_of_row X23 _ 112 _ _ (0, 0) R23, cell_of_row X23 _ 113 _ _ (0, 0) R23, cell_of_row X23 _ 114 _ _ (0, 0) R23, cell_of_row X23 _ 115 _ _ (0, 0) R23, cell_of_row X23 _ 116 _ _ (0, 0) R23, cell_of_row X23 _ 117 _ _ (0, 0) R23, cell_of_row X23 _ 118 _ _ (0, 0) R23, cell_of_row X23 _ 119 _ _ (0, 0) R23, cell_of_row X23 _ 120 _ _ (0, 0) R23⟩
  · exact ⟨[], ⟨[], [47, 120], [], 0, [], [], false⟩, (200, [47, 120], []), .slice none 0 0, .slice none 0 0, .slice none 0 0, 0, 0, 0, rfl, sta_nil13 X23, fa_nil X23 none 0, fa_nil X23 none 0, cell_of_row X23 _ 121 _ _ (0, 0) R23, cell_of_row X23 _ 122 _ _ (0, 0) R23, cell_of_row X23 _ 123 _ _ (0, 0) R23, cell_of_row X23 _ 124 _ _ (0, 0) R23, cell_of_row X23 _ 125 _ _ (0, 0) R23, cell_of_row X23 _ 126 _ _ (0, 0) R23, cell_of_row X23 _ 127 _ _ (0, 0) R23, cell_of_row X23 _ 128 _ _ (0, 0) R23, cell_of_row X23 _ 129 _ _ (0, 0) R23, cell_of_row X23 _ 130 _ _ (0, 0) R23, cell_of_row X23 _ 131 _ _ (0, 0) R23⟩
set_option maxRecDepth 100000 in
set_option maxHeartbeats 4000000 in
theorem known13_any {w : World} (C : ChainI w) : Calls Tryd.prog 8 #[] w fun e w' => e = .returned (.bool true) ∧ Below w.heap.size w w' := by
  have HC := Lib.hid C
  clear C
  obtain ⟨X, hX⟩ : ∃ X, X = kxW w := ⟨_, rfl⟩
  have hR := kx_rows w X hX
  have HV := Lib.hid hR.1
  have HTAB := Lib.hid hR.2
  have hX2 : X = (((((((((((((((((((((((((((((w.alloc (.cells #[.int .i64 1, .string ⟨#[65]⟩, .string ⟨#[49]⟩, .int .i64 0] 35)).alloc (.cells #[.int .i64 1, .string ⟨#[66]⟩, .string ⟨#[50]⟩, .int .i64 0] 35)).alloc (.cells #[.int .i64 2, .string ⟨#[75]⟩, .string ⟨#[118]⟩, .int .i64 0] 35)).alloc (.cells #[.int .i64 4, .string ⟨#[]⟩, .string ⟨#[47, 97, 112, 105]⟩, .int .i64 0] 35)).alloc (.cells #[.string ⟨#[65]⟩, .string ⟨#[49]⟩] 53)).alloc (.cells #[.string ⟨#[66]⟩, .string ⟨#[50]⟩] 53)).alloc (.cells #[.int .i64 1, .string ⟨#[65]⟩, .string ⟨#[49]⟩, .int .i64 0, .int .i64 1, .string ⟨#[66]⟩, .string ⟨#[50]⟩, .int .i64 0] 35)).alloc (.cells #[.string ⟨#[66]⟩, .string ⟨#[50]⟩, .string ⟨#[65]⟩, .string ⟨#[49]⟩] 53)).alloc (.cells #[.int .i64 2, .string ⟨#[75]⟩, .string ⟨#[118]⟩, .int .i64 0, .int .i64 1, .string ⟨#[65]⟩, .string ⟨#[49]⟩, .int .i64 0] 35)).alloc (.cells #[.string ⟨#[107]⟩, .string ⟨#[118]⟩] 53)).alloc (.cells #[.string ⟨#[65]⟩, .string ⟨#[49]⟩] 53)).alloc (.cells #[.int .i64 2, .string ⟨#[75]⟩, .string ⟨#[118]⟩, .int .i64 0, .int .i64 1, .string ⟨#[65]⟩, .string ⟨#[49]⟩, .int .i64 0] 35)).alloc (.cells #[.string ⟨#[75]⟩, .string ⟨#[119]⟩, .string ⟨#[107]⟩, .string ⟨#[118]⟩] 53)).alloc (.cells #[.int .i64 2, .string ⟨#[75]⟩, .string ⟨#[118]⟩, .int .i64 0, .int .i64 1, .string ⟨#[65]⟩, .string ⟨#[49]⟩, .int .i64 0] 35)).alloc (.cells #[.int .i64 1, .string ⟨#[65]⟩, .string ⟨#[49]⟩, .int .i64 0, .int .i64 4, .string ⟨#[]⟩, .string ⟨#[47, 97, 112, 105]⟩, .int .i64 0] 35)).alloc (.cells #[.string ⟨#[65]⟩, .string ⟨#[49]⟩] 53)).alloc (.cells #[.int .i64 1, .string ⟨#[65]⟩, .string ⟨#[49]⟩, .int .i64 0, .int .i64 4, .string ⟨#[]⟩, .string ⟨#[47, 97, 112, 105]⟩, .int .i64 0] 35)).alloc (.cells #[.string ⟨#[65]⟩, .string ⟨#[49]⟩] 53)).alloc (.cells #[.int .i64 1, .string ⟨#[65]⟩, .string ⟨#[49]⟩, .int .i64 0, .int .i64 4, .string ⟨#[]⟩, .string ⟨#[47, 97, 112, 105]⟩, .int .i64 0] 35)).alloc (.cells #[.string ⟨#[65]⟩, .string ⟨#[49]⟩] 53)).alloc (.cells #[.int .i64 3, .string ⟨#[]⟩, .string ⟨#[]⟩, .int .i64 2, .int .i64 1, .string ⟨#[65]⟩, .string ⟨#[49]⟩, .int .i64 0] 35)).alloc (.cells #[.int .i64 3, .string ⟨#[]⟩, .string ⟨#[]⟩, .int .i64 3, .int .i64 1, .string ⟨#[65]⟩, .string ⟨#[49]⟩, .int .i64 0] 35)).alloc (.cells #[.string ⟨#[65]⟩, .string ⟨#[49]⟩] 53)).alloc (.cells #[.int .i64 5, .string ⟨#[70, 114, 111, 109]⟩, .string ⟨#[88, 45, 87, 104, 111]⟩, .int .i64 0] 35)).alloc (.cells #[.string ⟨#[70, 82, 79, 77]⟩, .string ⟨#[109, 101]⟩] 53)).alloc (.cells #[.string ⟨#[88, 45, 87, 104, 111]⟩, .string ⟨#[109, 101]⟩] 53)).alloc (.cells #[.int .i64 5, .string ⟨#[70, 114, 111, 109]⟩, .string ⟨#[88, 45, 87, 104, 111]⟩, .int .i64 0] 35)).alloc (.cells #[.string ⟨#[88, 45, 87, 104, 111]⟩, .string ⟨#[45]⟩] 53)).alloc (.cells #[.slice (some ⟨w.heap.size + 1 + 1 + 1 + 1 + 1 + 1, 0, none⟩) 2 2, .string ⟨#[]⟩, .string ⟨#[47, 120]⟩, .string ⟨#[]⟩, .int .i64 0, .slice none 0 0, .string ⟨#[]⟩, .bool false, .int .i64 200, .slice (some ⟨w.heap.size + 1 + 1 + 1 + 1 + 1 + 1 + 1, 0, none⟩) 2 2, .string ⟨#[47, 120]⟩, .slice (some ⟨w.heap.size + 1 + 1 + 1 + 1 + 1 + 1 + 1 + 1, 0, none⟩) 2 2, .string ⟨#[]⟩, .string ⟨#[47, 120]⟩, .string ⟨#[]⟩, .int .i64 0, .slice (some ⟨w.heap.size + 1 + 1 + 1 + 1 + 1 + 1 + 1 + 1 + 1, 0, none⟩) 1 1, .string ⟨#[]⟩, .bool false, .int .i64 200, .slice (some ⟨w.heap.size + 1 + 1 + 1 + 1 + 1 + 1 + 1 + 1 + 1 + 1, 0, none⟩) 1 1, .string ⟨#[47, 120]⟩, .slice (some ⟨w.heap.size + 1 + 1 + 1 + 1 + 1 + 1 + 1 + 1 + 1 + 1 + 1, 0, none⟩) 2 2, .string ⟨#[]⟩, .string ⟨#[47, 120]⟩, .string ⟨#[]⟩, .int .i64 0, .slice (some ⟨w.heap.size + 1 + 1 + 1 + 1 + 1 + 1 + 1 + 1 + 1 + 1 + 1 + 1, 0, none⟩) 2 2, .string ⟨#[]⟩, .bool false, .int .i64 403, .slice none 0 0, .string ⟨#[102, 111, 114, 98, 105, 100, 100, 101, 110]⟩, .slice (some ⟨w.heap.size + 1 + 1 + 1 + 1 + 1 + 1 + 1 + 1 + 1 + 1 + 1 + 1 + 1, 0, none⟩) 2 2, .string ⟨#[]⟩, .string ⟨#[47, 120]⟩, .string ⟨#[]⟩, .int .i64 0, .slice none 0 0, .string ⟨#[]⟩, .bool false, .int .i64 403, .slice none 0 0, .string ⟨#[102, 111, 114, 98, 105, 100, 100, 101, 110]⟩, .slice (some ⟨w.heap.size + 1 + 1 + 1 + 1 + 1 + 1 + 1 + 1 + 1 + 1 + 1 + 1 + 1 + 1, 0, none⟩) 2 2, .string ⟨#[]⟩, .string ⟨#[47, 97, 112, 105, 47, 120]⟩, .string ⟨#[]⟩, .int .i64 0, .slice none 0 0, .string ⟨#[]⟩, .bool false, .int .i64 200, .slice (some ⟨w.heap.size + 1 + 1 + 1 + 1 + 1 + 1 + 1 + 1 + 1 + 1 + 1 + 1 + 1 + 1 + 1, 0, none⟩) 1 1, .string ⟨#[47, 120]⟩, .slice (some ⟨w.heap.size + 1 + 1 + 1 + 1 + 1 + 1 + 1 + 1 + 1 + 1 + 1 + 1 + 1 + 1 + 1 + 1, 0, none⟩) 2 2, .string ⟨#[]⟩, .string ⟨#[47, 97, 112, 105]⟩, .string ⟨#[]⟩, .int .i64 0, .slice none 0 0, .string ⟨#[]⟩, .bool false, .int .i64 200, .slice (some ⟨w.heap.size + 1 + 1 + 1 + 1 + 1 + 1 + 1 + 1 + 1 + 1 + 1 + 1 + 1 + 1 + 1 + 1 + 1, 0, none⟩) 1 1, .string ⟨#[47]⟩, .slice (some ⟨w.heap.size + 1 + 1 + 1 + 1 + 1 + 1 + 1 + 1 + 1 + 1 + 1 + 1 + 1 + 1 + 1 + 1 + 1 + 1, 0, none⟩) 2 2, .string ⟨#[]⟩, .string ⟨#[47, 97, 112, 105, 120]⟩, .string ⟨#[]⟩, .int .i64 0, .slice none 0 0, .string ⟨#[]⟩, .bool false, .int .i64 404, .slice (some ⟨w.heap.size + 1 + 1 + 1 + 1 + 1 + 1 + 1 + 1 + 1 + 1 + 1 + 1 + 1 + 1 + 1 + 1 + 1 + 1 + 1, 0, none⟩) 1 1, .string ⟨#[110, 111, 116, 32, 102, 111, 117, 110, 100]⟩, .slice (some ⟨w.heap.size + 1 + 1 + 1 + 1 + 1 + 1 + 1 + 1 + 1 + 1 + 1 + 1 + 1 + 1 + 1 + 1 + 1 + 1 + 1 + 1, 0, none⟩) 2 2, .string ⟨#[]⟩, .string ⟨#[47, 120]⟩, .string ⟨#[]⟩, .int .i64 0, .slice none 0 0, .string ⟨#[97, 98, 99]⟩, .bool false, .int .i64 413, .slice none 0 0, .string ⟨#[116, 111, 111, 32, 108, 111, 110, 103]⟩, .slice (some ⟨w.heap.size + 1 + 1 + 1 + 1 + 1 + 1 + 1 + 1 + 1 + 1 + 1 + 1 + 1 + 1 + 1 + 1 + 1 + 1 + 1 + 1 + 1, 0, none⟩) 2 2, .string ⟨#[]⟩, .string ⟨#[47, 120]⟩, .string ⟨#[]⟩, .int .i64 0, .slice none 0 0, .string ⟨#[97, 98, 99]⟩, .bool false, .int .i64 200, .slice (some ⟨w.heap.size + 1 + 1 + 1 + 1 + 1 + 1 + 1 + 1 + 1 + 1 + 1 + 1 + 1 + 1 + 1 + 1 + 1 + 1 + 1 + 1 + 1 + 1, 0, none⟩) 1 1, .string ⟨#[47, 120]⟩, .slice (some ⟨w.heap.size + 1 + 1 + 1 + 1 + 1 + 1 + 1 + 1 + 1 + 1 + 1 + 1 + 1 + 1 + 1 + 1 + 1 + 1 + 1 + 1 + 1 + 1 + 1, 0, none⟩) 1 1, .string ⟨#[]⟩, .string ⟨#[47, 120]⟩, .string ⟨#[]⟩, .int .i64 0, .slice (some ⟨w.heap.size + 1 + 1 + 1 + 1 + 1 + 1 + 1 + 1 + 1 + 1 + 1 + 1 + 1 + 1 + 1 + 1 + 1 + 1 + 1 + 1 + 1 + 1 + 1 + 1, 0, none⟩) 1 1, .string ⟨#[]⟩, .bool false, .int .i64 200, .slice (some ⟨w.heap.size + 1 + 1 + 1 + 1 + 1 + 1 + 1 + 1 + 1 + 1 + 1 + 1 + 1 + 1 + 1 + 1 + 1 + 1 + 1 + 1 + 1 + 1 + 1 + 1 + 1, 0, none⟩) 1 1, .string ⟨#[47, 120]⟩, .slice (some ⟨w.heap.size + 1 + 1 + 1 + 1 + 1 + 1 + 1 + 1 + 1 + 1 + 1 + 1 + 1 + 1 + 1 + 1 + 1 + 1 + 1 + 1 + 1 + 1 + 1 + 1 + 1 + 1, 0, none⟩) 1 1, .string ⟨#[]⟩, .string ⟨#[47, 120]⟩, .string ⟨#[]⟩, .int .i64 0, .slice none 0 0, .string ⟨#[]⟩, .bool false, .int .i64 200, .slice (some ⟨w.heap.size + 1 + 1 + 1 + 1 + 1 + 1 + 1 + 1 + 1 + 1 + 1 + 1 + 1 + 1 + 1 + 1 + 1 + 1 + 1 + 1 + 1 + 1 + 1 + 1 + 1 + 1 + 1, 0, none⟩) 1 1, .string ⟨#[47, 120]⟩, .slice none 0 0, .string ⟨#[]⟩, .string ⟨#[47, 120]⟩, .string ⟨#[]⟩, .int .i64 0, .slice none 0 0, .string ⟨#[]⟩, .bool false, .int .i64 200, .slice none 0 0, .string ⟨#[47, 120]⟩] 54)) := hX
  have HX2 := Lib.hid hX2
  clear hR hX hX2
  go_enter Tryd.func8, Tryd.ntmps8
  go_wp2
  rw [← HX2.out]
  clear HX2
  obtain ⟨BT, hBT⟩ : ∃ b, b = w.heap.size + 1 + 1 + 1 + 1 + 1 + 1 + 1 + 1 + 1 + 1 + 1 + 1 + 1 + 1 + 1 + 1 + 1 + 1 + 1 + 1 + 1 + 1 + 1 + 1 + 1 + 1 + 1 + 1 := ⟨_, rfl⟩
  rw [← hBT] at HTAB ⊢
  clear hBT
  go_loopw [8] (fun iv wr => ∃ i : Nat, i ≤ 12 ∧ iv = .int .i64 (i : Int) ∧ Hid (VarsAt w wr ∧ Below X.heap.size X wr)) (fun iv _ => 12 - (intOf iv).toNat)
  case atStart => exact ⟨0, Nat.zero_le _, rfl, Lib.hid ⟨HV.out, Below.refl _ _⟩⟩
  case round =>
    obtain ⟨i, hi, rfl, HR⟩ := hrel
    have hw1 : IntKind.i64.wrap ((i : Int) + 1) = (i : Int) + 1 := by rw [IntKind.wrap_i64]; omega
    by_cases hlt : i < 12
    case pos =>
      have g1 : decide ((i : Int) < 12) = true := decide_eq_true (by omega)
      obtain ⟨l, r, x, Vl, Vq, Vx, bl, bq, bx, hrow, hat⟩ := HTAB.out i hlt
      have hall := kx_all ⟨i, hlt⟩
      dsimp only at hall
      rw [hrow] at hall
      obtain ⟨hsm, hwc, hta, hxl⟩ := hall
      obtain ⟨hS, hQ⟩ := smallB_is hsm
      obtain ⟨xc, xb, xf⟩ := x
      dsimp only [Option.getD_some] at hwc hta hxl hS hQ
      have hA := hat.below HR.out.2
      have hix := idxR BT 12 12 i hlt
      have hwr := HC.out.wrap l Vl bl 0 20 #[] wr HR.out.1.bel hA.sta hS (enters_of Tryd.func20 (by kernel_rfl) rfl)
      have HW := Lib.hid hwr
      unfold hV at HW
      have HWC := Lib.hid hwc
      have HTA := Lib.hid hta
      have HXL := Lib.hid hxl
      have HQ := Lib.hid hQ
      have HAT := Lib.hid hA
      obtain ⟨kk, hkk⟩ : ∃ k, k = i * 11 := ⟨_, rfl⟩
      have HKK := Lib.hid hkk
      have c0 := hA.c0
      rw [← hkk] at c0 hix
      clear hrow hat hsm hwc hta hxl hS hQ hA hwr hkk
      go_wp2_with fail
      refine HW.out.mono ?_
      rintro e W2 ⟨hB2, h2⟩
      rcases h2 with ⟨h2, _⟩ | ⟨_, g, lb, rfl, hen, hd⟩
      · exact absurd HWC.out h2
      have hen' : ∀ args w, (callFunc g args).run Tryd.prog w = .ok (.enter g args) w := hen
      have hqh : ∀ w, (binOp .eql 40 (.func (.func g) #[] lb) .nilFunc).run Tryd.prog w = .ok (.bool false) w := eql_nilFunc Tryd.underlying40 (.func g) #[] lb
      obtain ⟨Wq, hWq⟩ : ∃ Wq, Wq = W2.drew := ⟨_, rfl⟩
      have hBq : Below W2.heap.size W2 Wq := by rw [hWq]; exact ⟨rfl, rfl, rfl, Nat.le_refl _, fun _ _ => rfl⟩
      have hA2 := HAT.out.below hB2
      have hAq := hA2.below hBq
      have HX1 := tell_does hd (W := Wq) hBq.size (fun j _ hj => hBq.block j hj) r Vq bq 0 hAq.faq HQ.out (fun h => hAq.faq.lt h)
      rw [HTA.out] at HX1
      have hrc : rqC r Vq = #[S r.m, S r.p, S r.q, .int .i64 r.v, Vq, S r.body, .bool r.cl] := rfl
      unfold rqV at HX1
      rw [hrc] at HX1
      have HX1 := Lib.hid HX1
      obtain ⟨SS, hSS⟩ : ∃ SS : World → Prop, SS = fun W => (W.cell? ⟨BT, kk + 1, none⟩ = some (S r.m) ∧ W.cell? ⟨BT, kk + 1 + 1, none⟩ = some (S r.p) ∧ W.cell? ⟨BT, kk + 1 + 2, none⟩ = some (S r.q) ∧ W.cell? ⟨BT, kk + 1 + 3, none⟩ = some (.int .i64 r.v) ∧ W.cell? ⟨BT, kk + 1 + 4, none⟩ = some Vq ∧ W.cell? ⟨BT, kk + 1 + 5, none⟩ = some (S r.body) ∧ W.cell? ⟨BT, kk + 1 + 6, none⟩ = some (.bool r.cl)) ∧
          (W.cell? ⟨BT, kk + 8, none⟩ = some (.int .i64 (xc : Int)) ∧ W.cell? ⟨BT, kk + 8 + 1, none⟩ = some Vx ∧ W.cell? ⟨BT, kk + 8 + 2, none⟩ = some (S xb)) := ⟨_, rfl⟩
      have HSS : Hid (∀ W, KxAt W BT i l r (xc, xb, xf) Vl Vq Vx bl bq bx → SS W) := Lib.hid fun W h => by
        rw [hSS, HKK.out]
        exact ⟨⟨h.c1, h.c2, h.c3, h.c4, h.c5, h.c6, h.c7⟩, h.c8, h.c9, h.ca⟩
      have hs2 := HSS.out W2 hA2
      have hsq := HSS.out Wq hAq
      have HQQ : Hid (KxAt Wq BT i l r (xc, xb, xf) Vl Vq Vx bl bq bx ∧ VarsAt w Wq ∧ Below X.heap.size X Wq) := Lib.hid ⟨hAq, (HR.out.1.below hB2).below hBq, (HR.out.2.trans (hB2.mono HR.out.2.size)).trans (hBq.mono (HR.out.2.trans (hB2.mono HR.out.2.size)).size)⟩
      have HWQ := Lib.hid hWq
      clear hB2 hd hA2 hAq hBq hrc HW hWq c0
      go_wp2
      refine wp_region_noPanic ?_
      refine wp_region_held_drew (S := SS) (by kernel_rfl) (by rw [← HWQ.out]; exact hsq) (fun _ => ?_)
      rw [← HWQ.out]
      clear hs2
      rw [hSS] at hsq HSS ⊢
      clear hSS
      refine take_at (i := 0) (d := some 130) (v := .int .i64 0) rfl (by kernel_rfl) (by kernel_rfl) (by kernel_rfl) (fun _ _ _ h => h) (fun oi ho => ?_) hsq ?_
      · obtain rfl := Option.some.inj ho
        exact Or.inl ⟨by rfl, fun wx hSw => by go_simp⟩
      simp only [Act.put, List.setIfInBounds_toArray, List.set_cons_zero, List.set_cons_succ]
      refine take_at (i := 1) (d := some 131) (v := .bool false) rfl (by kernel_rfl) (by kernel_rfl) (by kernel_rfl) (fun _ _ _ h => h) (fun oi ho => ?_) hsq ?_
      · obtain rfl := Option.some.inj ho
        exact Or.inl ⟨by rfl, fun wx hSw => by go_simp⟩
      simp only [Act.put, List.setIfInBounds_toArray, List.set_cons_zero, List.set_cons_succ]
      refine take_at (i := 2) (d := some 132) (v := .bool false) rfl (by kernel_rfl) (by kernel_rfl) (by kernel_rfl) (fun _ _ _ h => h) (fun oi ho => ?_) hsq ?_
      · obtain rfl := Option.some.inj ho
        exact Or.inl ⟨by rfl, fun wx hSw => by go_simp⟩
      simp only [Act.put, List.setIfInBounds_toArray, List.set_cons_zero, List.set_cons_succ]
      refine take_at (i := 3) (d := some 133) (v := .func (.func g) #[] lb) rfl (by kernel_rfl) (by kernel_rfl) (by kernel_rfl) (fun _ _ _ h => h) (fun oi ho => ?_) hsq ?_
      · obtain rfl := Option.some.inj ho
        exact Or.inl ⟨by rfl, fun wx hSw => by go_simp⟩
      simp only [Act.put, List.setIfInBounds_toArray, List.set_cons_zero, List.set_cons_succ]
      refine take_at (i := 4) (d := some 134) (v := .bool false) rfl (by kernel_rfl) (by kernel_rfl) (by kernel_rfl) (fun _ _ _ h => h) (fun oi ho => ?_) hsq ?_
      · obtain rfl := Option.some.inj ho
        exact Or.inl ⟨by rfl, fun wx hSw => by go_simp⟩
      simp only [Act.put, List.setIfInBounds_toArray, List.set_cons_zero, List.set_cons_succ]
      refine take_at (i := 5) (d := some 135) (v := .bool false) rfl (by kernel_rfl) (by kernel_rfl) (by kernel_rfl) (fun _ _ _ h => h) (fun oi ho => ?_) hsq ?_
      · obtain rfl := Option.some.inj ho
        exact Or.inl ⟨by rfl, fun wx hSw => by go_simp⟩
      simp only [Act.put, List.setIfInBounds_toArray, List.set_cons_zero, List.set_cons_succ]
      refine take_at (i := 6) (d := some 136) (v := .bool false) rfl (by kernel_rfl) (by kernel_rfl) (by kernel_rfl) (fun _ _ _ h => h) (fun oi ho => ?_) hsq ?_
      · obtain rfl := Option.some.inj ho
        exact Or.inl ⟨by rfl, fun wx hSw => by go_simp⟩
      simp only [Act.put, List.setIfInBounds_toArray, List.set_cons_zero, List.set_cons_succ]
      refine take_at (i := 7) (d := some 137) (v := .func (.func g) #[] lb) rfl (by kernel_rfl) (by kernel_rfl) (by kernel_rfl) (fun _ _ _ h => h) (fun oi ho => ?_) hsq ?_
      · obtain rfl := Option.some.inj ho
        exact Or.inl ⟨by rfl, fun wx hSw => by go_simp⟩
      simp only [Act.put, List.setIfInBounds_toArray, List.set_cons_zero, List.set_cons_succ]
      refine take_at (i := 8) (d := some 138) (v := .slice (some ⟨BT, 0, none⟩) 12 12) rfl (by kernel_rfl) (by kernel_rfl) (by kernel_rfl) (fun _ _ _ h => h) (fun oi ho => ?_) hsq ?_
      · obtain rfl := Option.some.inj ho
        exact Or.inl ⟨by rfl, fun wx hSw => by go_simp⟩
      simp only [Act.put, List.setIfInBounds_toArray, List.set_cons_zero, List.set_cons_succ]
      refine take_at (i := 9) (d := some 139) (v := .int .i64 (i : Int)) rfl (by kernel_rfl) (by kernel_rfl) (by kernel_rfl) (fun _ _ _ h => h) (fun oi ho => ?_) hsq ?_
      · obtain rfl := Option.some.inj ho
        exact Or.inl ⟨by rfl, fun wx hSw => by go_simp⟩
      simp only [Act.put, List.setIfInBounds_toArray, List.set_cons_zero, List.set_cons_succ]
      refine take_at (i := 10) (d := some 140) (v := .pointer (some ⟨BT, kk, none⟩)) rfl (by kernel_rfl) (by kernel_rfl) (by kernel_rfl) (fun _ _ _ h => h) (fun oi ho => ?_) hsq ?_
      · obtain rfl := Option.some.inj ho
        exact Or.inl ⟨by rfl, fun wx hSw => by go_simp⟩
      simp only [Act.put, List.setIfInBounds_toArray, List.set_cons_zero, List.set_cons_succ]
      refine take_at (i := 11) (d := some 141) (v := .pointer (some ⟨BT, kk + 1, none⟩)) rfl (by kernel_rfl) (by kernel_rfl) (by kernel_rfl) (fun _ _ _ h => h) (fun oi ho => ?_) hsq ?_
      · obtain rfl := Option.some.inj ho
        exact Or.inl ⟨by rfl, fun wx hSw => by go_simp⟩
      simp only [Act.put, List.setIfInBounds_toArray, List.set_cons_zero, List.set_cons_succ]
      refine take_at (i := 12) (d := some 142) (v := .agg #[S r.m, S r.p, S r.q, .int .i64 r.v, Vq, S r.body, .bool r.cl]) rfl (by kernel_rfl) (by kernel_rfl) (by kernel_rfl) (fun _ _ _ h => h) (fun oi ho => ?_) hsq ?_
      · obtain rfl := Option.some.inj ho
        exact Or.inl ⟨by rfl, fun wx hSw => by (obtain ⟨⟨k0, k1, k2, k3, k4, k5, k6⟩, m0, m1, m2⟩ := hSw; have j1 : wx.cell? ⟨BT, kk + 2, none⟩ = some (S r.p) := k1; have j2 : wx.cell? ⟨BT, kk + 3, none⟩ = some (S r.q) := k2; have j3 : wx.cell? ⟨BT, kk + 4, none⟩ = some (.int .i64 r.v) := k3; have j4 : wx.cell? ⟨BT, kk + 5, none⟩ = some Vq := k4; have j5 : wx.cell? ⟨BT, kk + 6, none⟩ = some (S r.body) := k5; have j6 : wx.cell? ⟨BT, kk + 7, none⟩ = some (.bool r.cl) := k6; have n1 : wx.cell? ⟨BT, kk + 9, none⟩ = some Vx := m1; have n2 : wx.cell? ⟨BT, kk + 10, none⟩ = some (S xb) := m2; go_simp)⟩
      simp only [Act.put, List.setIfInBounds_toArray, List.set_cons_zero, List.set_cons_succ]
      refine take_at (i := 14) (d := some 144) (v := .slice (some ⟨BT, 0, none⟩) 12 12) rfl (by kernel_rfl) (by kernel_rfl) (by kernel_rfl) (fun _ _ _ h => h) (fun oi ho => ?_) hsq ?_
      · obtain rfl := Option.some.inj ho
        exact Or.inl ⟨by rfl, fun wx hSw => by go_simp⟩
      simp only [Act.put, List.setIfInBounds_toArray, List.set_cons_zero, List.set_cons_succ]
      refine take_at (i := 15) (d := some 145) (v := .int .i64 (i : Int)) rfl (by kernel_rfl) (by kernel_rfl) (by kernel_rfl) (fun _ _ _ h => h) (fun oi ho => ?_) hsq ?_
      · obtain rfl := Option.some.inj ho
        exact Or.inl ⟨by rfl, fun wx hSw => by go_simp⟩
      simp only [Act.put, List.setIfInBounds_toArray, List.set_cons_zero, List.set_cons_succ]
      refine take_at (i := 16) (d := some 146) (v := .pointer (some ⟨BT, kk, none⟩)) rfl (by kernel_rfl) (by kernel_rfl) (by kernel_rfl) (fun _ _ _ h => h) (fun oi ho => ?_) hsq ?_
      · obtain rfl := Option.some.inj ho
        exact Or.inl ⟨by rfl, fun wx hSw => by go_simp⟩
      simp only [Act.put, List.setIfInBounds_toArray, List.set_cons_zero, List.set_cons_succ]
      refine take_at (i := 17) (d := some 147) (v := .pointer (some ⟨BT, kk + 8, none⟩)) rfl (by kernel_rfl) (by kernel_rfl) (by kernel_rfl) (fun _ _ _ h => h) (fun oi ho => ?_) hsq ?_
      · obtain rfl := Option.some.inj ho
        exact Or.inl ⟨by rfl, fun wx hSw => by go_simp⟩
      simp only [Act.put, List.setIfInBounds_toArray, List.set_cons_zero, List.set_cons_succ]
      refine take_at (i := 18) (d := some 148) (v := .agg #[.int .i64 (xc : Int), Vx, S xb]) rfl (by kernel_rfl) (by kernel_rfl) (by kernel_rfl) (fun _ _ _ h => h) (fun oi ho => ?_) hsq ?_
      · obtain rfl := Option.some.inj ho
        exact Or.inl ⟨by rfl, fun wx hSw => by (obtain ⟨⟨k0, k1, k2, k3, k4, k5, k6⟩, m0, m1, m2⟩ := hSw; have j1 : wx.cell? ⟨BT, kk + 2, none⟩ = some (S r.p) := k1; have j2 : wx.cell? ⟨BT, kk + 3, none⟩ = some (S r.q) := k2; have j3 : wx.cell? ⟨BT, kk + 4, none⟩ = some (.int .i64 r.v) := k3; have j4 : wx.cell? ⟨BT, kk + 5, none⟩ = some Vq := k4; have j5 : wx.cell? ⟨BT, kk + 6, none⟩ = some (S r.body) := k5; have j6 : wx.cell? ⟨BT, kk + 7, none⟩ = some (.bool r.cl) := k6; have n1 : wx.cell? ⟨BT, kk + 9, none⟩ = some Vx := m1; have n2 : wx.cell? ⟨BT, kk + 10, none⟩ = some (S xb) := m2; go_simp)⟩
      simp only [Act.put, List.setIfInBounds_toArray, List.set_cons_zero, List.set_cons_succ]
      refine ready_call (i := 13) (d := some 143) (f := g) (args := #[.agg #[S r.m, S r.p, S r.q, .int .i64 r.v, Vq, S r.body, .bool r.cl]] ++ lb) rfl (by kernel_rfl) (fun oi ho => ?_) ?_
      · obtain rfl := Option.some.inj ho
        exact ⟨by rfl, by go_simp⟩
      refine (HX1.out).mono ?_
      rintro e W6 ⟨V6, rfl, hF6, hB6⟩
      dsimp only at hF6
      obtain ⟨g6, hA6, -⟩ := FO.fa hF6
      obtain ⟨a6, q6, hv6⟩ := hA6.form
      subst hv6
      have H6 : Hid (KxAt W6 BT i l r (xc, xb, xf) Vl Vq Vx bl bq bx ∧ VarsAt w W6 ∧ Below X.heap.size X W6) := Lib.hid ⟨HQQ.out.1.below hB6, HQQ.out.2.1.below hB6, HQQ.out.2.2.trans (hB6.mono HQQ.out.2.2.size)⟩
      have HSA := Lib.hid (same13_true (xc : Int) xb xf (.slice a6 xf.length q6) Vx g6 0 bx 0 (by have := HXL.out; omega) W6 hA6 H6.out.1.fax)
      unfold rpV rpC at HSA
      clear hF6 hA6 hB6
      refine ⟨_, rfl, HSS.out W6 H6.out.1, ?_⟩
      unfold rpV rpC
      dsimp only
      simp only [Act.put, List.setIfInBounds_toArray, List.set_cons_zero, List.set_cons_succ]
      refine ready_call (i := 19) (d := some 149) (f := 17) (args := #[.agg #[.int .i64 (xc : Int), .slice a6 xf.length q6, S xb], .agg #[.int .i64 (xc : Int), Vx, S xb]]) rfl (by kernel_rfl) (fun oi ho => ?_) ?_
      · obtain rfl := Option.some.inj ho
        exact ⟨by rfl, by go_simp⟩
      refine (HSA.out).mono ?_
      rintro e W7 ⟨rfl, hB7⟩
      have HE : Hid (VarsAt w W7 ∧ Below X.heap.size X W7) := Lib.hid ⟨H6.out.2.1.below hB7, H6.out.2.2.trans (hB7.mono H6.out.2.2.size)⟩
      have hs7 := HSS.out W7 (H6.out.1.below hB7)
      clear hB7
      refine ⟨_, rfl, hs7, ?_⟩
      simp only [Act.put, List.setIfInBounds_toArray, List.set_cons_zero, List.set_cons_succ]
      refine take_at (i := 20) (d := some 150) (v := .bool false) rfl (by kernel_rfl) (by kernel_rfl) (by kernel_rfl) (fun _ _ _ h => h) (fun oi ho => ?_) hs7 ?_
      · obtain rfl := Option.some.inj ho
        exact Or.inl ⟨by rfl, fun wx hSw => by go_simp⟩
      simp only [Act.put, List.setIfInBounds_toArray, List.set_cons_zero, List.set_cons_succ]
      refine take_at (i := 21) (d := some 151) (v := .bool false) rfl (by kernel_rfl) (by kernel_rfl) (by kernel_rfl) (fun _ _ _ h => h) (fun oi ho => ?_) hs7 ?_
      · obtain rfl := Option.some.inj ho
        exact Or.inl ⟨by rfl, fun wx hSw => by go_simp⟩
      simp only [Act.put, List.setIfInBounds_toArray, List.set_cons_zero, List.set_cons_succ]
      refine wpAnyH_done (by kernel_rfl) ?_ _
      refine NoPanic.normal ?_
      clear hs7 hsq
      go_wp2
      exact ⟨⟨i + 1, by omega, by go_num, HE⟩, by simp [intOf]; omega⟩
    case neg =>
      obtain rfl : i = 12 := by omega
      obtain ⟨b2, hb2⟩ : ∃ b, b = wr.heap.size := ⟨_, rfl⟩
      obtain ⟨Y, hY⟩ : ∃ Y, Y = wr.alloc (.cells #[.int .i64 0, .string ⟨#[]⟩, .string ⟨#[]⟩, .int .i64 0, .int .i64 6, .string ⟨#[]⟩, .string ⟨#[]⟩, .int .i64 0, .int .i64 1, .string ⟨#[]⟩, .string ⟨#[]⟩, .int .i64 0, .int .i64 1, .string ⟨#[97, 32, 98]⟩, .string ⟨#[49]⟩, .int .i64 0, .int .i64 1, .string ⟨#[65]⟩, .string ⟨#[32, 49]⟩, .int .i64 0, .int .i64 1, .string ⟨#[99, 111, 110, 110, 101, 99, 116, 105, 111, 110]⟩, .string ⟨#[49]⟩, .int .i64 0, .int .i64 1, .string ⟨#[65]⟩, .string ⟨#[49]⟩, .int .i64 1, .int .i64 2, .string ⟨#[]⟩, .string ⟨#[]⟩, .int .i64 0, .int .i64 3, .string ⟨#[]⟩, .string ⟨#[]⟩, .int .i64 (-1), .int .i64 3, .string ⟨#[65]⟩, .string ⟨#[]⟩, .int .i64 0, .int .i64 4, .string ⟨#[]⟩, .string ⟨#[47]⟩, .int .i64 0, .int .i64 4, .string ⟨#[]⟩, .string ⟨#[97, 112, 105]⟩, .int .i64 0, .int .i64 4, .string ⟨#[]⟩, .string ⟨#[47, 97, 112, 105, 47]⟩, .int .i64 0, .int .i64 5, .string ⟨#[65]⟩, .string ⟨#[]⟩, .int .i64 0, .int .i64 5, .string ⟨#[65]⟩, .string ⟨#[85, 112, 103, 114, 97, 100, 101]⟩, .int .i64 0, .int .i64 1, .string ⟨#[65, 76, 76, 79, 87]⟩, .string ⟨#[71, 69, 84]⟩, .int .i64 0, .int .i64 1, .string ⟨#[115, 101, 99, 45, 119, 101, 98, 115, 111, 99, 107, 101, 116, 45, 97, 99, 99, 101, 112, 116]⟩, .string ⟨#[]⟩, .int .i64 0, .int .i64 5, .string ⟨#[65]⟩, .string ⟨#[83, 101, 99, 45, 87, 101, 98, 83, 111, 99, 107, 101, 116, 45, 86, 101, 114, 115, 105, 111, 110]⟩, .int .i64 0, .int .i64 1, .string ⟨#[67, 111, 110, 116, 101, 110, 116, 45, 76, 101, 110, 103, 116, 104]⟩, .string ⟨#[49]⟩, .int .i64 0, .int .i64 1, .string ⟨#[116, 114, 97, 110, 115, 102, 101, 114, 45, 101, 110, 99, 111, 100, 105, 110, 103]⟩, .string ⟨#[]⟩, .int .i64 0] 35) := ⟨_, rfl⟩
      have hBY : Below wr.heap.size wr Y := by rw [hY]; exact (Below.refl _ _).alloc (Nat.le_refl _) _
      have hSY : StA Y (.slice (some ⟨b2, 0, none⟩) 20 20) kxBad b2 0 := sta_row (l := kxBad) (n := 20) (c := 20) (by rw [hY, hb2]; exact row_new wr _ _) rfl rfl (Nat.le_refl _)
      have HSY := Lib.hid hSY
      have HVY := Lib.hid (HR.out.1.below hBY)
      have HY := Lib.hid hY
      have HB2 := Lib.hid hb2
      clear hSY hBY hY hb2
      go_wp2
      rw [← HY.out, ← HB2.out]
      go_loopw [12] (fun iv wr => ∃ j : Nat, j ≤ 20 ∧ iv = .int .i64 (j : Int) ∧ Hid (VarsAt w wr ∧ Below Y.heap.size Y wr)) (fun iv _ => 20 - (intOf iv).toNat)
      case atStart => exact ⟨0, Nat.zero_le _, rfl, Lib.hid ⟨HVY.out, Below.refl _ _⟩⟩
      case round =>
        obtain ⟨j, hj, rfl, HZ⟩ := hrel
        have hw2 : IntKind.i64.wrap ((j : Int) + 1) = (j : Int) + 1 := by rw [IntKind.wrap_i64]; omega
        by_cases hlt2 : j < 20
        case pos =>
          have g2 : decide ((j : Int) < 20) = true := decide_eq_true (by omega)
          obtain ⟨s, hs⟩ : ∃ s, kxBad[j]? = some s := ⟨kxBad[j]'hlt2, List.getElem?_eq_getElem _⟩
          have hbad := kx_bad ⟨j, hlt2⟩
          dsimp only at hbad
          rw [hs] at hbad
          obtain ⟨hsm, hrf⟩ := hbad
          have hS1 := (smallB_is hsm).1
          dsimp only [Option.getD_some] at hrf hS1
          have hST := HSY.out.below HZ.out.2
          have hone := sta_one hST j s hs (20 - j) (by omega)
          rw [Nat.zero_add] at hone
          have hsl : ∀ W, (Instr.slice 22 (.slice (some ⟨b2, 0, none⟩) 20 20) (some (.int .i64 (j : Int))) (some (.int .i64 ((j : Int) + 1))) none).run Tryd.prog W = .ok (.slice (some ⟨b2, j * 4, none⟩) 1 (20 - j)) W := fun W => by
            have h := run_mid_at (P := Tryd.prog) Tryd.underlying22 (fun w => Tryd.sizeOf35 w) b2 0 20 20 j (j + 1) (by omega) (by omega) (by omega) W
            rw [Nat.zero_add, show j + 1 - j = 1 by omega] at h
            exact h
          have hix := fun w' => indexS4 b2 0 20 20 j hlt2 w'
          have hwc : wrapC [s] = 1 := by
            unfold wrapC
            rw [if_neg (by simp), List.all_cons, hrf]; rfl
          have hwr := HC.out.wrap [s] _ b2 (j * 4) 20 #[] wr HZ.out.1.bel hone hS1 (enters_of Tryd.func20 (by kernel_rfl) rfl)
          rw [hwc] at hwr
          have HW := Lib.hid hwr
          unfold hV at HW
          have hlen := hS1.2 s (by simp)
          have HRT : Hid (∀ W, Below w.heap.size w W → Calls Tryd.prog 12 #[.agg #[.int .i64 s.kind, S s.name, S s.val, .int .i64 s.n]] W fun e w' => e = .returned (.bool false) ∧ Below W.heap.size W w') := Lib.hid fun W hB => by
            have := HC.out.right s W hB hlen.1 hlen.2
            rw [hrf] at this
            exact this
          have HCE : Hid (∀ W, Below wr.heap.size wr W → W.cell? ⟨b2, 0 + j * 4, none⟩ = some (.int .i64 s.kind) ∧ W.cell? ⟨b2, 0 + j * 4 + 1, none⟩ = some (S s.name) ∧ W.cell? ⟨b2, 0 + j * 4 + 2, none⟩ = some (S s.val) ∧ W.cell? ⟨b2, 0 + j * 4 + 3, none⟩ = some (.int .i64 s.n)) := Lib.hid fun W hB => by
            have h := hST.below hB
            exact ⟨h.cell j s hs 0 _ rfl, h.cell j s hs 1 _ rfl, h.cell j s hs 2 _ rfl, h.cell j s hs 3 _ rfl⟩
          obtain ⟨kk, hkk⟩ : ∃ k, k = 0 + j * 4 := ⟨_, rfl⟩
          rw [← hkk] at hix HCE
          have hkk2 : j * 4 = kk := by omega
          rw [hkk2] at HW hsl
          clear hs hsm hrf hS1 hST hone hwc hwr hlen hkk hkk2
          go_wp2_with fail
          refine HW.out.mono ?_
          rintro e W2 ⟨hB2, h2⟩
          rcases h2 with ⟨_, rfl⟩ | ⟨h2, _⟩
          case inr => cases h2
          obtain ⟨c0, c1, c2, c3⟩ := HCE.out W2 hB2
          have H2 : Hid (VarsAt w W2 ∧ Below Y.heap.size Y W2) := Lib.hid ⟨HZ.out.1.below hB2, HZ.out.2.trans (hB2.mono HZ.out.2.size)⟩
          have HR2 := Lib.hid (HRT.out W2 H2.out.1.bel)
          clear hB2 HW
          go_wp2_with fail
          refine HR2.out.mono ?_
          rintro e W3 ⟨rfl, hB3⟩
          have H3 : Hid (VarsAt w W3 ∧ Below Y.heap.size Y W3) := Lib.hid ⟨H2.out.1.below hB3, H2.out.2.trans (hB3.mono H2.out.2.size)⟩
          clear hB3 c0 c1 c2 c3
          go_wp2
          exact ⟨⟨j + 1, by omega, by go_num, H3⟩, by simp [intOf]; omega⟩
        case neg =>
          obtain rfl : j = 20 := by omega
          have hVv := HZ.out.1
          have f0 : wr.cell? ⟨w.heap.size, 0, none⟩ = some (.int .i64 1) := cell_of_row _ _ 0 _ _ (0, 0) hVv.r0
          have f1 : wr.cell? ⟨w.heap.size, 1, none⟩ = some (.string ⟨#[65]⟩) := cell_of_row _ _ 1 _ _ (0, 0) hVv.r0
          have f2 : wr.cell? ⟨w.heap.size, 2, none⟩ = some (.string ⟨#[49]⟩) := cell_of_row _ _ 2 _ _ (0, 0) hVv.r0
          have f3 : wr.cell? ⟨w.heap.size, 3, none⟩ = some (.int .i64 0) := cell_of_row _ _ 3 _ _ (0, 0) hVv.r0
          obtain ⟨Z, hZ⟩ : ∃ Z, Z = wr.alloc (.cells #[.int .i64 1, .string ⟨#[65]⟩, .string ⟨#[49]⟩, .int .i64 0, .int .i64 1, .string ⟨#[65]⟩, .string ⟨#[49]⟩, .int .i64 0, .int .i64 1, .string ⟨#[65]⟩, .string ⟨#[49]⟩, .int .i64 0, .int .i64 1, .string ⟨#[65]⟩, .string ⟨#[49]⟩, .int .i64 0, .int .i64 1, .string ⟨#[65]⟩, .string ⟨#[49]⟩, .int .i64 0, .int .i64 1, .string ⟨#[65]⟩, .string ⟨#[49]⟩, .int .i64 0, .int .i64 1, .string ⟨#[65]⟩, .string ⟨#[49]⟩, .int .i64 0, .int .i64 1, .string ⟨#[65]⟩, .string ⟨#[49]⟩, .int .i64 0, .int .i64 1, .string ⟨#[65]⟩, .string ⟨#[49]⟩, .int .i64 0] 35) := ⟨_, rfl⟩
          have hBZ : Below wr.heap.size wr Z := by rw [hZ]; exact (Below.refl _ _).alloc (Nat.le_refl _) _
          have hSZ : StA Z (.slice (some ⟨wr.heap.size, 0, none⟩) 9 9) [⟨1, [65], [49], 0⟩, ⟨1, [65], [49], 0⟩, ⟨1, [65], [49], 0⟩, ⟨1, [65], [49], 0⟩, ⟨1, [65], [49], 0⟩, ⟨1, [65], [49], 0⟩, ⟨1, [65], [49], 0⟩, ⟨1, [65], [49], 0⟩, ⟨1, [65], [49], 0⟩] wr.heap.size 0 := sta_row (l := [⟨1, [65], [49], 0⟩, ⟨1, [65], [49], 0⟩, ⟨1, [65], [49], 0⟩, ⟨1, [65], [49], 0⟩, ⟨1, [65], [49], 0⟩, ⟨1, [65], [49], 0⟩, ⟨1, [65], [49], 0⟩, ⟨1, [65], [49], 0⟩, ⟨1, [65], [49], 0⟩]) (n := 9) (c := 9) (by rw [hZ]; exact row_new wr _ _) rfl rfl (Nat.le_refl _)
          have hwr := HC.out.wrap [⟨1, [65], [49], 0⟩, ⟨1, [65], [49], 0⟩, ⟨1, [65], [49], 0⟩, ⟨1, [65], [49], 0⟩, ⟨1, [65], [49], 0⟩, ⟨1, [65], [49], 0⟩, ⟨1, [65], [49], 0⟩, ⟨1, [65], [49], 0⟩, ⟨1, [65], [49], 0⟩] _ _ 0 20 #[] Z (hVv.below hBZ).bel hSZ ⟨by decide, by decide⟩ (enters_of Tryd.func20 (by kernel_rfl) rfl)
          rw [show wrapC [⟨1, [65], [49], 0⟩, ⟨1, [65], [49], 0⟩, ⟨1, [65], [49], 0⟩, ⟨1, [65], [49], 0⟩, ⟨1, [65], [49], 0⟩, ⟨1, [65], [49], 0⟩, ⟨1, [65], [49], 0⟩, ⟨1, [65], [49], 0⟩, ⟨1, [65], [49], 0⟩] = 6 by decide] at hwr
          have HW := Lib.hid hwr
          unfold hV at HW
          have HVZ := Lib.hid (hVv.below hBZ).bel
          rw [hZ] at HW
          have HZ2 := Lib.hid hZ
          clear hwr hSZ hBZ hVv hZ
          go_wp2_with fail
          refine HW.out.mono ?_
          rintro e W2 ⟨hB2, h2⟩
          rw [← HZ2.out] at hB2
          rcases h2 with ⟨_, rfl⟩ | ⟨h2, _⟩
          case inr => cases h2
          have H2 := Lib.hid (HVZ.out.trans (hB2.mono HVZ.out.size))
          have hrt := HC.out.right ⟨1, [65], [], 0⟩ W2 H2.out (by decide) (by decide)
          rw [show rightS ⟨1, [65], [], 0⟩ = true by decide +kernel] at hrt
          have HRT := Lib.hid hrt
          clear hrt hB2 HW
          unfold stV stC at HRT
          go_wp2_with fail
          refine HRT.out.mono ?_
          rintro e W3 ⟨rfl, hB3⟩
          have H3 := Lib.hid (H2.out.trans (hB3.mono H2.out.size))
          have HWK := Lib.hid (wakes13_any (HC.out.up H3.out))
          clear hB3 HRT
          go_wp2_with fail
          refine HWK.out.mono ?_
          rintro e W4 ⟨rfl, hB4⟩
          have H4 := Lib.hid (H3.out.trans (hB4.mono H3.out.size))
          clear hB4
          go_wp2
          go_ret
          exact ⟨rfl, H4.out⟩
end Go.Proofs.YtbnlkjoblngakaaDoor
