/-
  Contracts of the document's plain answers of layer 5: Same, num. Conditions are each theorem's own.
-/
import Derived.Test.YtcfcmnhnijjehaaV4S
import Derived.Test.YtcfcmnhnijjehaaLibA
import Derived.Deep.Cut
import Derived.Deep.CutRange
namespace Go.Proofs.Ytcfcmnhnijjehaa
open Go.RowKit

theorem r5num (A : Option Addr) (bs : List UInt8) (c B : Nat) (at_ s : Int) (w : World) (h : Rd w B A bs) (hl : bs.length ≤ 1099511627776) :
    Calls Try.prog 80 #[.slice A bs.length c, .int .i64 at_, .int .i64 s] w fun e w' => e = .returned (.int .i64 (getV bs at_ s)) ∧ w = w' := by
  go_enter Try.func80, Try.ntmps80
  go_wp2_with (go_at_call 70; refine (rget_any A bs c B at_ s _ h hl).mono ?_; rintro e w' ⟨rfl, rfl⟩)
  go_ret
  exact ⟨rfl, rfl⟩

/-- Are two packets the same? A plain definition. -/
def same4 (q r : P4) : Bool := (q.tos == r.tos && q.id == r.id && q.off == r.off && q.ttl == r.ttl && q.proto == r.proto && q.src == r.src && q.dst == r.dst) && (q.df == r.df) && (q.mf == r.mf) && decide (q.opt = r.opt) && decide (q.dat = r.dat)
theorem same4_iff {q r : P4} : same4 q r = true ↔ q = r := by
  obtain ⟨a0, a1, a2, a3, a4, a5, a6, a7, a8, a9, a10⟩ := q
  obtain ⟨b0, b1, b2, b3, b4, b5, b6, b7, b8, b9, b10⟩ := r
  simp only [same4, Bool.and_eq_true, beq_iff_eq, decide_eq_true_eq, P4.mk.injEq]
  constructor
  · rintro ⟨⟨⟨⟨⟨⟨⟨⟨⟨⟨h0, h1⟩, h2⟩, h3⟩, h4⟩, h5⟩, h6⟩, h7⟩, h8⟩, h9⟩, h10⟩; exact ⟨h0, h1, h2, h3, h4, h5, h6, h7, h8, h9, h10⟩
  · rintro ⟨h0, h1, h2, h3, h4, h5, h6, h7, h8, h9, h10⟩; exact ⟨⟨⟨⟨⟨⟨⟨⟨⟨⟨h0, h1⟩, h2⟩, h3⟩, h4⟩, h5⟩, h6⟩, h7⟩, h8⟩, h9⟩, h10⟩
set_option maxRecDepth 100000 in
set_option maxHeartbeats 4000000 in
theorem r5same (q r : P4) (A : Option Addr) (c : Nat) (A' : Option Addr) (c' : Nat) (X : Option Addr) (d : Nat) (X' : Option Addr) (d' B : Nat) (w : World) (hB : B ≤ w.heap.size)
    (hA : Rd w B A q.opt) (hA' : Rd w B A' q.dat) (hX : Rd w B X r.opt) (hX' : Rd w B X' r.dat) :
    Calls Try.prog 25 #[v4v q A c A' c', v4v r X d X' d'] w fun e w' => e = .returned (.bool (same4 q r)) ∧ Below w.heap.size w w' := by
  have hBl : ∀ o1 o2, Below w.heap.size w ((w.alloc o1).alloc o2) := fun o1 o2 => ((Below.refl w.heap.size w).alloc (Nat.le_refl _) o1).alloc (by simp) o2
  have at1 : At4 ((w.alloc (.cells (v4a q A c A' c') 24)).alloc (.cells (v4a r X d X' d') 24)) w.heap.size q A c A' c' := (At4.new w).below ((Below.refl (w.heap.size + 1) _).alloc (by simp) _) (by omega)
  have at2 : At4 ((w.alloc (.cells (v4a q A c A' c') 24)).alloc (.cells (v4a r X d X' d') 24)) (w.heap.size + 1) r X d X' d' := by
    have := At4.new (q := r) (A := X) (c := d) (A' := X') (c' := d') (w.alloc (.cells (v4a q A c A' c') 24))
    rwa [show (w.alloc (.cells (v4a q A c A' c') 24)).heap.size = w.heap.size + 1 from by simp] at this
  have keep : ∀ {Y : Option Addr} {bs : List UInt8}, Rd w B Y bs → Rd ((w.alloc (.cells (v4a q A c A' c') 24)).alloc (.cells (v4a r X d X' d') 24)) B Y bs := fun h => h.below ((hBl _ _).mono hB)
  obtain ⟨W, hW⟩ : ∃ W, W = (w.alloc (.cells (v4a q A c A' c') 24)).alloc (.cells (v4a r X d X' d') 24) := ⟨_, rfl⟩
  have HB2 : Below w.heap.size w W := by rw [hW]; exact hBl _ _
  rw [← hW] at at1 at2
  have c1 := conv_any A q.opt c B W (by rw [hW]; exact keep hA)
  have c2 := conv_any A' q.dat c' B W (by rw [hW]; exact keep hA')
  have c3 := conv_any X r.opt d B W (by rw [hW]; exact keep hX)
  have c4 := conv_any X' r.dat d' B W (by rw [hW]; exact keep hX')
  have x0 := at1.tos; have x1 := at1.id; have x2 := at1.off; have x3 := at1.ttl; have x4 := at1.proto; have x5 := at1.src; have x6 := at1.dst; have x7 := at1.df; have x8 := at1.mf; have x9 := at1.opt; have x10 := at1.dat
  have y0 := at2.tos; have y1 := at2.id; have y2 := at2.off; have y3 := at2.ttl; have y4 := at2.proto; have y5 := at2.src; have y6 := at2.dst; have y7 := at2.df; have y8 := at2.mf; have y9 := at2.opt; have y10 := at2.dat
  have HS := Lib.hid (show same4 q r = ((q.tos == r.tos && q.id == r.id && q.off == r.off && q.ttl == r.ttl && q.proto == r.proto && q.src == r.src && q.dst == r.dst) && (q.df == r.df) && (q.mf == r.mf) && decide (q.opt = r.opt) && decide (q.dat = r.dat)) from rfl)
  clear at1 at2 keep hA hA' hX hX' hBl
  have HWW := Lib.hid hW
  unfold v4v
  rw [show #[Value.int .i64 q.tos, .int .i64 q.id, .int .i64 q.off, .int .i64 q.ttl, .int .i64 q.proto, .int .i64 q.src, .int .i64 q.dst, .bool q.df, .bool q.mf, .slice A q.opt.length c, .slice A' q.dat.length c'] = v4a q A c A' c' from rfl,
    show #[Value.int .i64 r.tos, .int .i64 r.id, .int .i64 r.off, .int .i64 r.ttl, .int .i64 r.proto, .int .i64 r.src, .int .i64 r.dst, .bool r.df, .bool r.mf, .slice X r.opt.length d, .slice X' r.dat.length d'] = v4a r X d X' d' from rfl]
  clear hW
  go_enter Try.func25, Try.ntmps25
  go_upto_region 1 with fail
  rw [← HWW.out]
  go_cut [5] from 6 (fun s w' => s = .bool (q.tos == r.tos && q.id == r.id && q.off == r.off && q.ttl == r.ttl && q.proto == r.proto && q.src == r.src && q.dst == r.dst) ∧ w' = W)
  case first =>
    cases e0 : (q.tos == r.tos)
    · go_wp2_with fail
      go_meet
      exact ⟨by rw [e0]; rfl, rfl⟩
    · skip
      cases e1 : (q.id == r.id)
      · go_wp2_with fail
        go_meet
        exact ⟨by rw [e0, e1]; rfl, rfl⟩
      · skip
        cases e2 : (q.off == r.off)
        · go_wp2_with fail
          go_meet
          exact ⟨by rw [e0, e1, e2]; rfl, rfl⟩
        · skip
          cases e3 : (q.ttl == r.ttl)
          · go_wp2_with fail
            go_meet
            exact ⟨by rw [e0, e1, e2, e3]; rfl, rfl⟩
          · skip
            cases e4 : (q.proto == r.proto)
            · go_wp2_with fail
              go_meet
              exact ⟨by rw [e0, e1, e2, e3, e4]; rfl, rfl⟩
            · skip
              cases e5 : (q.src == r.src)
              · go_wp2_with fail
                go_meet
                exact ⟨by rw [e0, e1, e2, e3, e4, e5]; rfl, rfl⟩
              · skip
                cases e6 : (q.dst == r.dst)
                · go_wp2_with fail
                  go_meet
                  exact ⟨by rw [e0, e1, e2, e3, e4, e5, e6]; rfl, rfl⟩
                · go_wp2_with fail
                  go_meet
                  exact ⟨by rw [e0, e1, e2, e3, e4, e5, e6]; rfl, rfl⟩
  case rest =>
    obtain ⟨hs5, hwc⟩ := hcut
    subst hs5
    rw [hwc]
    clear hwc x0 x1 x2 x3 x4 x5 x6 y0 y1 y2 y3 y4 y5 y6
    obtain ⟨K, hK⟩ : ∃ b, b = (q.tos == r.tos && q.id == r.id && q.off == r.off && q.ttl == r.ttl && q.proto == r.proto && q.src == r.src && q.dst == r.dst) := ⟨_, rfl⟩
    rw [← hK] at HS ⊢
    clear hK
    have q1 := strB_eq q.opt r.opt
    have q2 := strB_eq q.dat r.dat
    cases K
    · clear q1 q2
      go_wp2_with fail
      go_ret
      exact ⟨ret_bool (by rw [HS.out]; rfl), HB2⟩
    · cases e7 : (q.df == r.df)
      · clear q1 q2
        go_wp2_with fail
        go_ret
        exact ⟨ret_bool (by rw [HS.out, e7]; rfl), HB2⟩
      · cases e8 : (q.mf == r.mf)
        · clear q1 q2
          go_wp2_with fail
          go_ret
          exact ⟨ret_bool (by rw [HS.out, e7, e8]; rfl), HB2⟩
        · cases e9 : decide (q.opt = r.opt)
          · rw [e9] at q1
            go_wp2_with fail
            go_ret
            exact ⟨ret_bool (by rw [HS.out, e7, e8, e9]; rfl), HB2⟩
          · rw [e9] at q1
            cases e10 : decide (q.dat = r.dat)
            · rw [e10] at q2
              go_wp2_with fail
              go_ret
              exact ⟨ret_bool (by rw [HS.out, e7, e8, e9, e10]; rfl), HB2⟩
            · rw [e10] at q2
              go_wp2_with fail
              go_ret
              exact ⟨ret_bool (by rw [HS.out, e7, e8, e9, e10]; rfl), HB2⟩
end Go.Proofs.Ytcfcmnhnijjehaa
