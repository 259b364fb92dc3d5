/-
  For every slice of bytes b, goosepondlaw02.SumRight answers true and leaves b as it was: the even part of b with its sum behind it is right.
  Conditions: none but the statement's own.
  The frame round the walk is the kit's own shell for this law.
-/
import Derived.Test.YtjemkbjofebinaaRows
import Derived.WalkKit
import Derived.ProofKit
import Derived.OpenShut
import Derived.ShutString
import Derived.ChangeOld
import Derived.Below
import Derived.Test.YtjemkbjofebinaaSumE
namespace Go.Proofs.Ytjemkbjofebinaa.sumRight
open Go.ChangeShapes Go.WideShapes Go.ChangeAt Go.RowKit
open Go.ChangeMaps (open_string shut_string)
set_option linter.unusedVariables false
open Go.Shelf
attribute [local go_sem] Oper.semAt_some

theorem own : ownKnob Try.prog.godebug = none := by kernel_rfl
theorem laidOut : laidOutB Try.prog = true := by kernel_rfl

/-! ### The walk -/
theorem walk (a0 : Option Addr) (len0 cap0 : Nat) (z0 : List Int) (w : World) (w0 : IsRow .u8 w a0 len0 cap0 z0) :
    Calls Try.prog 9 #[.slice a0 len0 cap0] w fun e w' => e = .returned (.bool true) ∧ Below w.heap.size w w' := by
  obtain ⟨bs, rfl, h⟩ := arg_of_row w0
  by_cases hlen : 2000 < bs.length
  · go_enter Try.func9, Try.ntmps9
    go_wp2_with (go_at_call 25; refine (awake2_any _).mono ?_; rintro e w1 ⟨rfl, hb⟩)
    go_ret
    exact ⟨rfl, hb⟩
  · have hcap := h.cap
    have he := h.even
    have hel := even_len bs
    obtain ⟨es, hes⟩ : ∃ es, es = bs.take (bs.length / 2 * 2) := ⟨_, rfl⟩
    rw [← hes] at he hel
    have Hel := Lib.hid hel
    have hle : es.length ≤ 2000 := by omega
    have HR := Lib.hid (right_sum (a := es) (m := bs.length / 2) (by omega))
    have hfb := fold_bd (psum [es])
    obtain ⟨N, hN⟩ : ∃ N, N = 65535 - fold (psum [es]) := ⟨_, rfl⟩
    rw [← hN] at HR
    have hN0 : 0 ≤ N := by omega
    have hN1 : N ≤ 65535 := by omega
    have HN := Lib.hid hN
    have E1 := Lib.hid (hi_val hN0 hN1).symm
    have E2 := Lib.hid (lo_val N).symm
    clear hes hel hN hfb
    go_enter Try.func9, Try.ntmps9
    go_wp2_with (first
      | (go_at_call 14; refine (clone_n a0 es cap0 _ _ Hel _ he (Nat.le_refl _) (by omega)).mono ?_; rintro e w1 ⟨v1, rfl, A1, c1, rfl, hc1, hr1, ho1, hb1⟩)
      | (go_at_call 28; refine (of_one (some ⟨w1.heap.size, 0, none⟩) es 1 (w1.heap.size + 1) N HN _ (Rd2.one (World.alloc_heap_new w1 _) (Nat.lt_succ_self _) (((Made.arg ho1).alloc (Nat.le_refl _) _).more (Nat.le_succ _))) (by simp) (by omega)).mono ?_; rintro e w2 ⟨rfl, hb2⟩)
      | (at_builtin; refine append_rd rfl _ _ rfl w.heap.size _ _ _ rfl ((own_below (ho1.alloc _) hb2).alloc _) (w2.heap.size + 1) (some ⟨w2.heap.size, 0, none⟩) 2 [hi N, lo N] rfl (by simp) (Rd.pair _ E1.out E2.out) (by simp; omega) (by simp; have := hb1.size; have := hb2.size; simp at this; omega) ?_; intro v3 w3 ho3 hg3; obtain ⟨g3, cap3, rfl⟩ := ownsRow_succ (k := es.length + 1) ho3)
      | (go_at_call 30; refine (right_one (some ⟨w3.heap.size, 0, none⟩) (es ++ [hi N, lo N]) 1 (w3.heap.size + 1) _ (Rd2.one_n (by simp) (World.alloc_heap_new w3 _) (Nat.lt_succ_self _) (((Made.arg_n (by simp) (row_append es [hi N, lo N]).symm ho3).alloc (Nat.le_refl _) _).more (Nat.le_succ _))) (by simp) (by simp; omega)).mono ?_; rintro e w4 ⟨rfl, hb4⟩; rw [HR.out])
      | (go_at_call 25; refine (awake2_any _).mono ?_; rintro e w5 ⟨rfl, hb5⟩))
    go_ret
    have s1 := hb1.size
    have s2 : w1.heap.size + 1 ≤ w2.heap.size := by have := hb2.size; simpa using this
    have s3 := hg3.size
    simp at s3
    have q2 : Below w.heap.size w w2 := (hb1.alloc s1 _).trans (hb2.mono (by simp; omega))
    have q3 : Below w.heap.size w w3 := (q2.alloc q2.size _).grown hg3 (by simp; omega) (fun k hk => own_block_ge ho1 k hk)
    have q4 : Below w.heap.size w w4 := (q3.alloc q3.size _).trans (hb4.mono (by simp; omega))
    exact ⟨rfl, q4.trans (hb5.mono q4.size)⟩

/-! ### The row's step -/
set_option maxRecDepth 100000 in
theorem lifted (os : Os) (started : os.Started) (H : Type) (enc : TypeId × Value → H) :
    ReturnsInHanded {} Try.checked os 9 .any (Rows.sumRightSpec.pre6 enc Try.prog Try.f9 Rows.sumRightRow.domain false) (Rows.sumRightSpec.post enc Try.prog Try.f9 false true false false) := by
  refine returnsInHanded_of_change (C := Try.checked) own started (by kernel_rfl) Try.func9
    (ChangeSpec.witness6 (enc := enc) (C := Try.checked) false ⟨#[], #[.slice none 0 0], []⟩ 8 (by kernel_rfl) (by kernel_rfl) (by kernel_rfl) (by kernel_rfl)) ?_
  intro W base args ds gs before hval0 hW hcnd _
  have hval : ∀ (j : Nat) t v, Try.f9.params[j]? = some t → args[j]? = some v → Value.okWide Try.prog W .any base t v := hval0
  have hW' := hW
  obtain ⟨p, q, hA0, hV, rfl, hfz, hnd⟩ := hW
  have hA : DataW.TrodAll enc Try.prog W 0 (fun _ => true) true Try.f9.params.toList args.toList ds p := hA0
  rw [Try.params9] at hA hval
  obtain ⟨v0, vs0, d0, ds0, p0, q0, hargs, rfl, rfl, h0, r0⟩ := trodAll_cons hA
  obtain ⟨rfl, rfl, rfl⟩ := trodAll_nil r0
  obtain rfl : args = #[v0] := by cases args; simp_all
  obtain ⟨rfl, rfl⟩ := trodVars_none hV
  obtain ⟨a0, len0, cap0, rfl⟩ := okWide_slice Try.underlying22 (hval 0 22 v0 rfl rfl)
  have k0 := h0
  have lt0 : ∀ x ∈ p0, x.block < W.heap.size := by obtain ⟨m, hm⟩ := k0; exact DataW.trod_lt m _ _ _ hm
  obtain ⟨z0, w0⟩ : ∃ zs, IsRow .u8 W a0 len0 cap0 zs := by
    obtain ⟨fuel, hf⟩ := h0
    rcases open_ints Try.underlying22 Try.underlying5 (by kernel_rfl) hf with ⟨hcs, _⟩ | ⟨x, l, c, zs, hcs, _, hl, hm, hz, _, hcell, hwz⟩
    · simp [Value.cells] at hcs
      obtain ⟨rfl, rfl, rfl⟩ := hcs
      exact ⟨[], .inl ⟨rfl, rfl, rfl, rfl⟩⟩
    · simp [Value.cells] at hcs
      obtain ⟨rfl, rfl, rfl⟩ := hcs
      exact ⟨zs, .inr ⟨_, rfl, hl, hm, by simpa using hz, hcell, hwz⟩⟩
  clear hA0 hval0
  refine (walk a0 len0 cap0 z0 W w0).mono fun e W' ⟨he, bel⟩ => ?_
  subst he
  exact ⟨_, rfl, _, _, _, [], _, [], hW', trodAll_mk1 (shut_bool Try.underlying4 _), (trodAll_cons_mk (Below.trod laidOut (by kernel_rfl) (of_decide_eq_true (by kernel_rfl)) k0 bel lt0) trodAll_mk0), rfl, bel.frame _, fun h => by cases h⟩

theorem over : Rows.sumRightRow.holds Try.pinned (OpenSpec.ofChange Rows.sumRightSpec) :=
  OpenClaim.holds_of_wide 9 Try.f9 rfl rfl rfl rfl rfl rfl rfl ⟨rfl, rfl, rfl, rfl, rfl⟩ rfl rfl rfl rfl rfl (by kernel_rfl) Try.func9 (by kernel_rfl)
    (of_decide_eq_true (by kernel_rfl)) (by unfold Func.isWrapper; first | (rw [if_pos (by decide +kernel)]; kernel_rfl) | (rw [if_neg (by decide +kernel)]; exact ⟨rfl, rfl⟩))
    (fun os started H enc _ => lifted os started H enc)

theorem proved : Rows.SumRightSaid := over
end Go.Proofs.Ytjemkbjofebinaa.sumRight
