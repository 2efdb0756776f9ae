/- labels.Show. -/
import Derived.Test.YtablaacddbkeiaaGreatDoorLbJ
import Derived.Test.YtablaacddbkeiaaGreatDoorLtK
import Derived.Lib.Join
namespace Go.Proofs.YtablaacddbkeiaaGreatDoor
open Go.RowKit

/-- The names of labels; the text of a list that is not empty. -/
def shN (ns : List ByteArray) (ls : List Nat) : List ByteArray := ls.map fun a => ns.getD a ByteArray.empty
theorem shN_len (ns : List ByteArray) (ls : List Nat) : (shN ns ls).length = ls.length := by simp [shN]
theorem shN_snoc {ns : List ByteArray} {ls : List Nat} {k : Nat} (h : k < ls.length) (h2 : ls[k] < ns.length) : shN ns (ls.take (k + 1)) = shN ns (ls.take k) ++ [ns[ls[k]]] := by
  unfold shN; rw [List.take_succ_eq_append_getElem h, List.map_append]; simp [List.getElem?_eq_getElem h2]
def shT (ns : List ByteArray) (ls : List Nat) : List UInt8 := Lib.join ((shN ns ls).map (·.data.toList)) [44]
/-- The text of a list. -/
def shV (ns : List ByteArray) (ls : List Nat) : ByteArray := if ls = [] then ⟨#[45]⟩ else ⟨(shT ns ls).toArray⟩
theorem shV_nil (ns : List ByteArray) : shV ns [] = ⟨#[45]⟩ := rfl
theorem shV_ne {ns : List ByteArray} {ls : List Nat} (h : ls ≠ []) : shV ns ls = ⟨(shT ns ls).toArray⟩ := if_neg h
theorem lens_le (xs : List (List UInt8)) (m : Nat) (h : ∀ x ∈ xs, x.length ≤ m) : Lib.lens xs ≤ xs.length * m := by
  induction xs with
  | nil => simp [Lib.lens]
  | cons x r ih =>
    have h1 := h x (by simp)
    have h2 := ih fun y hy => h y (by simp [hy])
    have : Lib.lens (x :: r) = x.length + Lib.lens r := by simp [Lib.lens]
    rw [this, List.length_cons, Nat.add_mul]
    omega
theorem shT_len {ns : List ByteArray} {up : List UInt8} {ls : List Nat} (hg : GL ns up ls) : (shT ns ls).length ≤ 2000 := by
  unfold shT
  have h1 : ∀ x ∈ (shN ns ls).map (·.data.toList), x.length ≤ 16 := fun x hx => by
    obtain ⟨s, hs, rfl⟩ := List.mem_map.1 hx
    unfold shN at hs
    obtain ⟨a, ha, rfl⟩ := List.mem_map.1 hs
    have hal : a < ns.length := by have := hg.all a ha; have := hg.good.len; omega
    rw [List.getD_eq_getElem?_getD, List.getElem?_eq_getElem hal]
    exact name16 (hg.good.name a hal)
  have h2 := lens_le _ 16 h1
  have h3 : ((shN ns ls).map (·.data.toList)).length ≤ 64 := by rw [List.length_map, shN_len]; exact hg.most
  generalize (shN ns ls).map (·.data.toList) = xs at h1 h2 h3
  cases xs with
  | nil => simp [Lib.join]
  | cons x r =>
    rw [Lib.join_length]
    have h4 : (x :: r).length * 16 ≤ 64 * 16 := Nat.mul_le_mul_right _ h3
    simp at h3 ⊢
    omega

set_option maxRecDepth 100000 in
set_option maxHeartbeats 4000000 in
theorem lshow_nil (v u : Value) (ns : List ByteArray) (up : List UInt8) (w : World) (hv : RdL w.heap.size w v ns up) (hz : RdN w.heap.size w u []) (hg : Good ns up) :
    Calls Tryz.prog 7 #[v, u] w fun e w' => e = .returned (.tuple #[.string ⟨#[45]⟩, .int .i64 0]) ∧ Below w.heap.size w w' := by
  have HL := Lib.hid hv
  obtain ⟨⟨vn, vu, rfl, hS, hB⟩, hsz⟩ := hv
  obtain ⟨q1, cap, rfl, hc, hc2, h⟩ := hS
  obtain ⟨q, cap', rfl, hc', hc2', h'⟩ := hB
  clear h h' hsz
  have HZ := Lib.hid hz
  obtain ⟨a, c, rfl, hl, hl2, h⟩ := hz
  clear h
  have HI := Lib.hid (Bx.new HL.out)
  have HG : Hid (GL ns up []) := ⟨hg, by simp, by simp⟩
  clear hg
  go_enter Tryz.func7, Tryz.ntmps7
  go_wp2_with (go_at_call 22; refine (lcheck_ok _ _ ns up [] _ HI.out.rd (HZ.out.next HI.out.bel) HG.out).mono ?_; rintro e w1 ⟨rfl, hbn⟩; have HI2 := Lib.hid (HI.out.next hbn); clear HI hbn; have HI := HI2; clear HI2)
  go_ret2
  exact ⟨rfl, HI.out.bel⟩

set_option maxRecDepth 100000 in
set_option maxHeartbeats 4000000 in
theorem lshow_some (v u : Value) (ns : List ByteArray) (up : List UInt8) (ls : List Nat) (w : World) (hv : RdL w.heap.size w v ns up) (hz : RdN w.heap.size w u ls) (hg : GL ns up ls) (hne : ls ≠ []) :
    Calls Tryz.prog 7 #[v, u] w fun e w' => e = .returned (.tuple #[.string ⟨(shT ns ls).toArray⟩, .int .i64 0]) ∧ Below w.heap.size w w' := by
  have HL := Lib.hid hv
  obtain ⟨⟨vn, vu, rfl, hS, hB⟩, hsz⟩ := hv
  obtain ⟨q1, cap, rfl, hc, hc2, h⟩ := hS
  obtain ⟨q, cap', rfl, hc', hc2', h'⟩ := hB
  clear h h' hsz
  have HZ := Lib.hid hz
  obtain ⟨a, c, rfl, hl, hl2, h⟩ := hz
  clear h
  have HI := Lib.hid (Bx.new HL.out)
  have HG := Lib.hid hg
  have h64 := hg.most
  have hlen : ((ls.length : Int) == 0) = false := by
    cases ls with
    | nil => exact absurd rfl hne
    | cons x r => rw [beq_eq_false_iff_ne]; simp; omega
  have HT := Lib.hid (shT_len hg)
  have HNe := Lib.hid hne
  clear hg hne
  obtain ⟨i0, hi, hz0, hz1, hz2⟩ := info_parts info9
  go_enter Tryz.func7, Tryz.ntmps7
  go_wp2_with (go_at_call 22; refine (lcheck_ok _ _ ns up ls _ HI.out.rd (HZ.out.next HI.out.bel) HG.out).mono ?_; rintro e w1 ⟨rfl, hbn⟩; have HI2 := Lib.hid (HI.out.next hbn); clear HI hbn; have HI := HI2; clear HI2)
  have hlt1 := HI.out.lt
  have hne1 : ¬ ((ls.length : Int) = 0) := by simpa using hlen
  clear hlen
  go_loopg [8, 25] ls.length (fun g b i wr => ∃ k : Nat, k + g = ls.length ∧ i = .int .i64 k ∧ Bx w (.slice q1 ns.length cap) (.slice q up.length cap') ns up wr ∧ wr.ownsRow (w.heap.size + 1) 9 1 b (shN ns (ls.take k)).length ((shN ns (ls.take k)).map vs))
  case atStart => exact ⟨0, by omega, rfl, HI.out, World.ownsRow_nil _ _ _ _⟩
  case round =>
    clear HI hlt1
    obtain ⟨k, hkg, rfl, hix, hrow⟩ := hrel
    have HI := Lib.hid hix
    cases gk with
    | zero =>
      have hkz : ¬ ((k : Int) < (ls.length : Int)) := by omega
      have HK : Hid (ls.take k = ls) := List.take_of_length_le (by omega)
      rw [HK.out] at hrow
      clear hix
      have hr := own_rd hrow
      obtain ⟨na, nc, rfl, hnc, hnc2, hcell⟩ := hr
      obtain ⟨g0, o0, rfl, hg0, hcell⟩ := hcell (by
        intro e
        have := shN_len ns ls
        rw [e] at this
        exact HNe.out (List.length_eq_zero_iff.1 this.symm))
      have hL := shN_len ns ls
      have hcon := Tryz.strings_Join g0 o0 nc (shN ns ls) ⟨#[44]⟩ wr (fun j x hjx => by
        obtain ⟨hj, rfl⟩ := List.getElem?_eq_some_iff.1 hjx
        exact hcell j hj) hg0 (by omega) hnc (by show (shT ns ls).length ≤ _; have := HT.out; omega)
      rw [show Lib.join ((shN ns ls).map (·.data.toList)) (⟨#[44]⟩ : ByteArray).data.toList = shT ns ls from rfl] at hcon
      have hcl : ∀ W, Calls Tryz.prog 23 #[.string ⟨(shT ns ls).toArray⟩] W fun e w' => e = .returned (.string ⟨(shT ns ls).toArray⟩) ∧ Below W.heap.size W w' := fun W => clone_any _ W (by have := HT.out; rw [size_mk]; omega)
      have HC := Lib.hid hcon
      have HCl := Lib.hid hcl
      clear hcon hcl hcell hL hrow HK
      generalize hTe : shT ns ls = T at HC HCl HT
      have HTe := Lib.hid hTe; clear hTe
      go_wp2_with (first
        | (go_at_call 24; refine HC.out.mono ?_; rintro e w2 ⟨rfl, hbn⟩; have HI2 := Lib.hid (HI.out.next hbn); clear HI hbn; have HI := HI2; clear HI2)
        | (go_at_call 23; refine (HCl.out _).mono ?_; rintro e w3 ⟨rfl, hbn⟩; have HI2 := Lib.hid (HI.out.next hbn); clear HI hbn; have HI := HI2; clear HI2))
      go_ret2
      exact ⟨ret_two (by rw [HTe.out]; rfl) rfl, HI.out.bel⟩
    | succ g =>
      have hlt : (k : Int) < (ls.length : Int) := by omega
      have hk : k < ls.length := by omega
      obtain ⟨b0, off, rfl, hlt0, hx⟩ := (HZ.out.below hix.bel).at k hk
      have hlk : ls[k] < ns.length := by have := HG.out.all ls[k] (List.getElem_mem hk); have := HG.out.good.len; omega
      obtain ⟨⟨v1, v2, hv12, hr1, hr2⟩, _⟩ := hix.rd
      injection hv12 with hv12
      obtain ⟨rfl, rfl⟩ : v1 = .slice q1 ns.length cap ∧ v2 = .slice q up.length cap' := by simpa [eq_comm] using hv12
      obtain ⟨b1, off1, rfl, hlt1, hy⟩ := hr1.at ls[k] hlk
      have hx0 := hix.x0
      have HS : Hid (shN ns (ls.take (k + 1)) = shN ns (ls.take k) ++ [ns[ls[k]]]) := shN_snoc hk hlk
      have hln : (shN ns (ls.take k)).length ≤ 64 := by rw [shN_len, List.length_take]; omega
      have hwr := hix.lt
      generalize shN ns (ls.take k) = L at hrow hln HS
      clear hix hr1 hr2 hv12
      go_wp2_with (at_builtin; refine wpList_append_own _ rfl _ _ 22 rfl (w.heap.size + 1) 9 i0 (.string ByteArray.empty) 1 16 Tryz.underlying22 hi hz0 hz1 hz2 rfl (by decide) _ _ _ rfl (World.ownsRow.alloc hrow _) ⟨wr.heap.size, 0, none⟩ 1 1 [.string ns[ls[k]]] rfl rfl (cells_new wr #[.string ns[ls[k]]] _ _) (by simp [Value.oneCell']) (by unfold maxLen; omega) (by omega) (by simp; omega) ?_; intro v4 w4 hown4 hgrow4 _)
      go_roundg g
      case measure => omega
      case rel => exact ⟨k + 1, by omega, by go_num, bx_up HI.out (((Below.refl (w.heap.size + 1) wr).alloc (by omega) _).grown hgrow4 (by simp; omega) (fun j e => (World.ownsRow.lt hrow j e).1)) HL.out, by rw [HS.out, List.length_append, List.map_append]; exact hown4⟩
theorem lshow_ok (v u : Value) (ns : List ByteArray) (up : List UInt8) (ls : List Nat) (w : World) (hv : RdL w.heap.size w v ns up) (hz : RdN w.heap.size w u ls) (hg : GL ns up ls) :
    Calls Tryz.prog 7 #[v, u] w fun e w' => e = .returned (.tuple #[.string (shV ns ls), .int .i64 0]) ∧ Below w.heap.size w w' := by
  by_cases h : ls = []
  · subst h; exact lshow_nil v u ns up w hv hz hg.good
  · rw [shV_ne h]; exact lshow_some v u ns up ls w hv hz hg h
end Go.Proofs.YtablaacddbkeiaaGreatDoor
