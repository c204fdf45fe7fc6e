/- The landed field's Parse walked. -/
import Derived.Test.YtnaekjmlikhglaaDoorQg
import Derived.Test.YtnaekjmlikhglaaDoorGen9
import Derived.Shelf.Strings.SlTrimAscii
import Derived.Shelf.RegionOpenPlain
namespace Go.Proofs.YtnaekjmlikhglaaDoor
open Go.RowKit
attribute [local go_sem] store_one S_match S_store eguard_BN nguard_BN

theorem index_S1 (s : List UInt8) (k : UInt8) (w : World) : Calls Tryd.prog 102 #[S s, S [k]] w fun e w' => e = .returned (.int .i64 (Lib.indexByte s k)) ∧ w' = w :=
  Tryd.stringslite_Index_one ⟨s.toArray⟩ k w
set_option maxRecDepth 100000 in
set_option maxHeartbeats 400000 in
theorem cut34_hit (k : UInt8) (a b : List UInt8) (h : k ∉ a) (hs : a.length + b.length ≤ 100000) (w : World) :
    Calls Tryd.prog 87 #[S (a ++ k :: b), S [k]] w fun e w' => e = .returned (.tuple #[S a, S b, .bool true]) ∧ Drawn w w' := by
  have hix := index_S1 (a ++ k :: b) k w
  rw [index_hit b h] at hix
  have hl := run_len_S (P := Tryd.prog) Tryd.underlying9 3 [k]
  have hln : (a ++ k :: b).length = a.length + b.length + 1 := by simp; omega
  have hs1 := slice_take (P := Tryd.prog) Tryd.underlying9 (a ++ k :: b) a.length (by omega)
  have hs2 := slice_drop (P := Tryd.prog) Tryd.underlying9 (a ++ k :: b) (a.length + 1) (by omega)
  rw [List.take_left] at hs1
  rw [show (a ++ k :: b).drop (a.length + 1) = b by rw [List.drop_append]; simp] at hs2
  generalize a ++ k :: b = T at *
  generalize hn : a.length = n at *
  have hn5 : n ≤ 100000 := by omega
  have hs3 : ∀ w, (Instr.slice 9 (S T) (some (.int .i64 ((n : Int) + 1))) none none).run Tryd.prog w = .ok (S b) w := fun w => by
    have := hs2 w
    rwa [show ((n + 1 : Nat) : Int) = (n : Int) + 1 by omega] at this
  have hg : decide ((0 : Int) ≤ (n : Int)) = true := decide_eq_true (by omega)
  have hl1 : ∀ w, (Builtin.len_ #[9] 3 #[S [k]]).run Tryd.prog w = .ok (.int .i64 1) w := hl
  clear hl hln h hn hs hs2
  go_enter Tryd.func87, Tryd.ntmps87
  go_wp2_with fail
  refine hix.mono ?_
  rintro e w1 ⟨rfl, rfl⟩
  go_wp2
  have hmx : Tryd.prog.follows .mixedOrders = true := by kernel_rfl
  go_region_o
  go_wp2
  go_ret3
  exact ⟨rfl, 1, rfl⟩
set_option maxRecDepth 100000 in
set_option maxHeartbeats 400000 in
theorem cut34_miss (k : UInt8) (s : List UInt8) (h : k ∉ s) (w : World) :
    Calls Tryd.prog 87 #[S s, S [k]] w fun e w' => e = .returned (.tuple #[S s, S [], .bool false]) ∧ Drawn w w' := by
  have hix := index_S1 s k w
  rw [index_miss h] at hix
  clear h
  go_enter Tryd.func87, Tryd.ntmps87
  go_wp2_with fail
  refine hix.mono ?_
  rintro e w1 ⟨rfl, rfl⟩
  go_wp2
  go_ret3
  exact ⟨rfl, 0, rfl⟩
/-- strings.Cut at one byte. -/
theorem cut_hit (k : UInt8) (a b : List UInt8) (h : k ∉ a) (hs : a.length + b.length ≤ 100000) (w : World) :
    Calls Tryd.prog 77 #[S (a ++ k :: b), S [k]] w fun e w' => e = .returned (.tuple #[S a, S b, .bool true]) ∧ Drawn w w' := by
  have hc := cut34_hit k a b h hs w
  generalize a ++ k :: b = T at *
  clear h hs
  go_enter Tryd.func77, Tryd.ntmps77
  go_wp2_with fail
  refine hc.mono ?_
  rintro e w1 ⟨rfl, hD⟩
  go_wp2
  go_ret3
  exact ⟨rfl, hD⟩
theorem cut_miss (k : UInt8) (s : List UInt8) (h : k ∉ s) (w : World) :
    Calls Tryd.prog 77 #[S s, S [k]] w fun e w' => e = .returned (.tuple #[S s, S [], .bool false]) ∧ Drawn w w' := by
  have hc := cut34_miss k s h w
  clear h
  go_enter Tryd.func77, Tryd.ntmps77
  go_wp2_with fail
  refine hc.mono ?_
  rintro e w1 ⟨rfl, hD⟩
  go_wp2
  go_ret3
  exact ⟨rfl, hD⟩
theorem trim_any (s : List UInt8) (hs : s.length ≤ 100000) (w : World) : Calls Tryd.prog 78 #[S s, S [9, 32]] w fun e w' => e = .returned (S (bareF s)) ∧ Below w.heap.size w w' := by
  have h := Any.strings_Trim_laid Tryd.lays160 (by kernel_rfl) ⟨s.toArray⟩ ⟨#[9, 32]⟩ w (by show s.length ≤ _; omega) (by decide) (Go.Proofs.ascii_of_all (by decide))
  rw [← trim_bare]
  exact h
/-- A result of a struct of two texts, and one more. -/
theorem struct_end {fn : Func} {p u : Tmp} {i : TypeInfo} (hi : Tryd.prog.info? 37 = some i) (hs : i.size = 2) (h : fn.results = #[.cell p 37, .tmp u]) (tmps : Array Value) (w : World) (g : Nat) (cs : Array Value) (hp : tmps.getD p undef = .pointer (some ⟨g, 0, none⟩)) (hg : Row w g cs 37) (h2 : cs.size = 2) :
    (results fn tmps).run Tryd.prog w = .ok (.tuple #[.agg cs, tmps.getD u undef]) w :=
  results_row_tmp h tmps w g 37 cs (0, 0) _ hp hg Tryd.underlying37 rfl (by rw [hi, Option.map_some, hs, h2])
theorem infoFld : ∃ i, Tryd.prog.info? 37 = some i ∧ i.size = 2 := by
  have h : (Tryd.prog.info? 37).map (·.size) = some 2 := by kernel_rfl
  cases hi : Tryd.prog.info? 37 with
  | none => simp [hi] at h
  | some i => exact ⟨i, rfl, by simpa [hi] using h⟩
end Go.Proofs.YtnaekjmlikhglaaDoor
