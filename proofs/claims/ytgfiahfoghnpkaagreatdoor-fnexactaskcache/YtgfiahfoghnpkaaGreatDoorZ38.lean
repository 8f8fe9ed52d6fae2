import Derived.Lone
import Derived.Calls
namespace Go.Proofs.YtgfiahfoghnpkaaGreatDoor.Drawn
open Go

/-- The world of a result. -/
def rW {α : Type} : Result α → World
  | .ok _ w => w
  | .halt _ w => w

theorem ask_d {α : Type} : ∀ (k : Ask α) (w : World), w.drawn ≤ (w.ask k).2.drawn := by
  intro k
  induction k with
  | done a => intro w; exact Nat.le_refl _
  | ask what range k ih =>
    intro w
    simp only [World.ask]
    split
    · exact ih _ w
    · exact Nat.le_trans (Nat.le_succ _) (ih _ { w with drawn := w.drawn + 1 })
theorem sys_d (w : World) (c : Sys) : w.drawn ≤ (w.sys c).2.drawn := by
  have h := ask_d (Kernel.perform c w.os) w
  unfold World.sys
  split
  · exact Nat.le_refl _
  · rename_i r os w1 _ e
    rw [e] at h
    exact h
theorem viewStore_d {p : Program} {w : World} {a : Addr} {u : TypeId} {k : Addr} {v : Value} {b : Bool} {r : World × List Addr} (h : w.viewStore p a u k v b = .ok r) : r.1.drawn = w.drawn := by
  unfold World.viewStore at h
  simp only [bind, Except.bind, pure, Except.pure, throwThe, MonadExceptOf.throw, MonadExcept.throw] at h
  repeat' first
    | (cases h; done)
    | (cases h; rfl)
    | split at h
theorem farStore_d {p : Program} {w : World} {a : Addr} {v : Value} {b : Bool} {r : World × List Addr} (h : w.farStore p a v b = .ok r) : r.1.drawn = w.drawn := by
  unfold World.farStore at h
  split at h
  · split at h
    · cases h
      rename_i e
      exact viewStore_d e
    · cases h
  · cases h

theorem run_d {α : Type} (p : Program) : ∀ (s : Sem α) (w : World), w.drawn ≤ (rW (s.run p w)).drawn := by
  intro s
  induction s with
  | pure a => intro w; exact Nat.le_refl _
  | load m a k ih =>
    intro w
    simp only [Sem.run]
    split
    · exact ih _ w
    · split
      · exact ih _ w
      · exact Nat.le_refl _
  | store m a v k ih =>
    intro w
    cases v <;> simp only [Sem.run] <;> first | exact Nat.le_refl _ | (split <;> first | (split <;> first | exact Nat.le_refl _ | exact ih (w.setCell a _)) | (split <;> first | exact Nat.le_refl _ | (rename_i e; have h := farStore_d e; rw [← h]; exact ih _)))
  | new o k ih => intro w; simp only [Sem.run]; exact ih _ { w with heap := w.heap.push o }
  | shape r k ih => intro w; simp only [Sem.run]; exact ih _ w
  | freeze a n k ih => intro w; simp only [Sem.run]; exact (show w.drawn = (w.freeze a n).drawn by unfold World.freeze; first | rfl | (split <;> rfl)) ▸ ih (w.freeze a n)
  | frozen a k ih => intro w; simp only [Sem.run]; exact ih _ w
  | getObj r k ih => intro w; simp only [Sem.run]; split <;> first | exact Nat.le_refl _ | exact ih _ w
  | setObj r o k ih => intro w; simp only [Sem.run]; split <;> first | exact Nat.le_refl _ | exact ih { w with heap := w.heap.setIfInBounds r o }
  | choose q k ih =>
    intro w
    simp only [Sem.run]
    split
    · exact ih _ w
    · exact Nat.le_trans (Nat.le_succ _) (ih _ { w with drawn := w.drawn + 1 })
  | sys c k ih => intro w; simp only [Sem.run]; exact Nat.le_trans (sys_d w c) (ih _ _)
  | program k ih => intro w; simp only [Sem.run]; exact ih _ w
  | mark m k ih => intro w; simp only [Sem.run]; exact ih w
  | halt h => intro w; exact Nat.le_refl _

theorem ok_d {α : Type} {p : Program} {s : Sem α} {w w' : World} {a : α} (e : s.run p w = .ok a w') : w.drawn ≤ w'.drawn := by
  have h := run_d p s w
  rw [e] at h
  exact h
theorem halt_d {α : Type} {p : Program} {s : Sem α} {w w' : World} {a : Halt} (e : s.run p w = .halt a w') : w.drawn ≤ w'.drawn := by
  have h := run_d p s w
  rw [e] at h
  exact h

theorem okT_d {α : Type} {p : Program} {s : Sem α} {w w' : World} {a : α} {es es' : Array Event} (e : s.runT p w es = (.ok a w', es')) : w.drawn ≤ w'.drawn := by
  rw [Sem.runT_eq] at e
  exact ok_d (congrArg Prod.fst e)
theorem haltT_d {α : Type} {p : Program} {s : Sem α} {w w' : World} {a : Halt} {es es' : Array Event} (e : s.runT p w es = (.halt a w', es')) : w.drawn ≤ w'.drawn := by
  rw [Sem.runT_eq] at e
  exact halt_d (congrArg Prod.fst e)

/-- No answer has been taken back: what goes on has as many drawn at least. -/
def okG (d : Nat) : GStep → Prop
  | .go _ w _ => d ≤ w.drawn
  | .comm _ _ _ _ w _ => d ≤ w.drawn
  | .spawn _ _ w _ => d ≤ w.drawn
  | .count _ w _ => d ≤ w.drawn
  | .timer _ _ w _ => d ≤ w.drawn
  | .alone _ _ w _ => d ≤ w.drawn
  | .newcoro _ _ _ w _ => d ≤ w.drawn
  | .coroswitch _ _ _ w _ => d ≤ w.drawn
  | .collect _ w _ => d ≤ w.drawn
  | .watch _ w _ => d ≤ w.drawn
  | .ended _ _ _ => True
theorem okG_after {d : Nat} {es : Array Event} {s : GStep} (h : okG d s) : okG d (s.after es) := by cases s <;> exact h
theorem okG_le {d d' : Nat} {s : GStep} (hd : d ≤ d') (h : okG d' s) : okG d s := by cases s <;> first | exact Nat.le_trans hd h | exact h
theorem okG_elim {α : Type} {d : Nat} (o : Option α) {a : GStep} {f : α → GStep} (h : okG d a) (k : ∀ x, okG d (f x)) : okG d (o.elim a f) := by cases o <;> first | exact h | exact k _

theorem doReturn_d (p : Program) (main : Bool) (fr : Frame) (cs : List Frame) (dy : Option Dying) (v : Value) (w : World) : okG w.drawn (doReturn p main fr cs dy v w) := by
  unfold doReturn
  repeat' first
    | exact Nat.le_refl _
    | exact True.intro
    | split
theorem dieOf_d (fr : Frame) (l : List ByteArray) (m : String) (b : Bool) (w : World) : okG w.drawn (dieOf fr l m b w) := Nat.le_refl _
theorem endThrow_d (fr : Frame) (m : String) (w : World) : okG w.drawn (endThrow fr m w) := Nat.le_refl _
theorem endPrinting_d (p : Program) (fr : Frame) (v : Value) (w : World) : okG w.drawn (endPrinting p fr v w) := by
  unfold endPrinting
  simp only []
  repeat' first
    | exact endThrow_d _ _ _
    | exact True.intro
    | split
theorem endFatal_d (p : Program) (fr : Frame) (cs : List Frame) (dy : Option Dying) (m : String) (w : World) : okG w.drawn (endFatal p fr cs dy m w) := by
  unfold endFatal
  simp only []
  split
  · rename_i e
    exact okG_le (ok_d e) (dieOf_d _ _ _ _ _)
  · exact True.intro
  · exact True.intro
theorem endWith_d (w : World) (fd : Nat) (t : ByteArray) (o : Outcome) (d : Nat) : okG d (endWith w fd t o) := by
  unfold endWith
  simp only []
  repeat' first
    | exact True.intro
    | split
theorem early_d (p : Program) (fr : Frame) (cs : List Frame) (dy : Option Dying) (g : Nat) (w : World) : okG w.drawn (early p fr cs dy g w) := by
  unfold early
  simp only []
  repeat' first
    | exact Nat.le_refl _
    | exact True.intro
    | (rename_i e; exact ok_d e)
    | (exact ok_d (by assumption))
    | (have hx := ok_d (p := p) (w := w) (by assumption); exact hx)
    | split

theorem callDeferred_d (p : Program) (fr : Frame) (cs : List Frame) (dy : Option Dying) (d : Deferred) (w : World) : okG w.drawn (callDeferred p fr cs dy d w) := by
  unfold callDeferred
  simp only [Sem.runT_eq]
  have h := run_d p (invoke d.target d.args) w
  generalize (invoke d.target d.args).run p w = r at h ⊢
  repeat' first
    | exact h
    | exact True.intro
    | exact okG_le h (endFatal_d _ _ _ _ _ _)
    | exact okG_le h (endThrow_d _ _ _)
    | refine okG_after ?_
    | split
theorem unwind_d (p : Program) (main : Bool) (fr : Frame) (cs : List Frame) (dy : Option Dying) (w : World) : okG w.drawn (unwind p main fr cs dy w) := by
  unfold unwind
  repeat' first
    | exact Nat.le_refl _
    | exact True.intro
    | exact callDeferred_d _ _ _ _ _ _
    | exact doReturn_d _ _ _ _ _ _ _
    | exact endPrinting_d _ _ _ _
    | (exact ok_d (by assumption))
    | (refine okG_le (ok_d (by assumption)) ?_; exact doReturn_d _ _ _ _ _ _ _)
    | (simp only [Sem.runT_eq]; refine okG_after ?_)
    | split
theorem writeOn_d (p : Program) (fr : Frame) (d : Dying) (f : Fatal) (w : World) : okG w.drawn (writeOn p fr d f w) := by
  unfold writeOn
  simp only []
  split
  · exact True.intro
  · split
    · rename_i e
      exact okT_d e
    · rename_i e
      exact haltT_d e
    · exact True.intro
    · exact True.intro
theorem die_d (p : Program) (fr : Frame) (d : Dying) (w : World) : okG w.drawn (die p fr d w) := by
  unfold die
  repeat' first
    | exact Nat.le_refl _
    | exact True.intro
    | exact writeOn_d _ _ _ _ _
    | exact endWith_d _ _ _ _ _
    | (exact ok_d (by assumption))
    | (refine okG_le (halt_d (by assumption)) ?_; exact endPrinting_d _ _ _ _)
    | (simp only [Sem.runT_eq]; refine okG_after ?_)
    | split

theorem apply_d (p : Program) (b : Bool) (fr : Frame) (cs : List Frame) (dy : Option Dying) (s : Sem Next) (w : World) : okG w.drawn (stepG.apply p b fr cs dy s w) := by
  unfold stepG.apply
  have e : (if b = true then s.runT p w #[] else (s.run p w, #[])).1 = s.run p w := by cases b <;> simp
  have h := run_d p s w
  rw [← e] at h
  generalize (if b = true then s.runT p w #[] else (s.run p w, #[])) = x at h ⊢
  obtain ⟨r, es⟩ := x
  simp only [] at h ⊢
  refine okG_after ?_
  repeat' first
    | exact h
    | exact True.intro
    | exact okG_le h (endFatal_d _ _ _ _ _ _)
    | exact okG_le h (endThrow_d _ _ _)
    | exact okG_le h (early_d _ _ _ _ _ _)
    | split
theorem oper_d (p : Program) (b : Bool) (fr : Frame) (cs : List Frame) (dy : Option Dying) (w : World) : okG w.drawn (stepG.oper p b fr cs dy w) := by
  unfold stepG.oper
  repeat' first
    | exact True.intro
    | exact apply_d _ _ _ _ _ _ _
    | split
theorem exec_d (p : Program) (main b : Bool) (fr : Frame) (cs : List Frame) (dy : Option Dying) (w : World) : okG w.drawn (stepG.exec p main b fr cs dy w) := by
  unfold stepG.exec
  simp only [Sem.runT_eq]
  repeat' first
    | exact Nat.le_refl _
    | exact True.intro
    | exact apply_d _ _ _ _ _ _ _
    | exact oper_d _ _ _ _ _ _
    | (exact ok_d (by assumption))
    | (exact halt_d (by assumption))
    | (refine okG_le (ok_d (by assumption)) ?_; first | exact doReturn_d _ _ _ _ _ _ _ | exact apply_d _ _ _ _ _ _ _)
    | refine okG_after ?_
    | refine okG_elim _ ?_ (fun _ => ?_)
    | split
theorem stepG_d (p : Program) (main : Bool) (g : Goroutine) (w : World) (b : Bool) : okG w.drawn (stepG p main g w b) := by
  obtain ⟨fr, callers, status, dying, offers⟩ := g
  simp only [stepG]
  split
  · exact die_d _ _ _ _
  · exact exec_d _ _ _ _ _ _ _
  · exact unwind_d _ _ _ _ _ _

theorem waitingAt_d {rest : Rest} {cases : Array CommCase} {w w' : World} (h : waitingAt rest cases w = some w') : w.drawn ≤ w'.drawn := by
  unfold waitingAt at h
  repeat' first
    | (cases h; done)
    | (cases h; exact Nat.le_refl _)
    | split at h
theorem communicate_d (p : Program) (rest : Rest) (gs : Array Goroutine) (i : Nat) (g : Goroutine) (cases : Array CommCase) (blocking : Bool)
    (shape : CommShape) (w : World) (m' : Machine) (h : (communicate p rest gs i g cases blocking shape w).1 = .next m') : w.drawn ≤ m'.world.drawn := by
  unfold communicate at h
  simp only [] at h
  repeat' first
    | (simp at h; done)
    | (simp only [Stepped.next.injEq] at h; subst h; exact Nat.le_refl _)
    | (simp only [Stepped.next.injEq] at h; subst h; exact waitingAt_d (by assumption))
    | (simp only [Stepped.next.injEq] at h; subst h; exact ok_d (by assumption))
    | (simp only [Stepped.next.injEq] at h; subst h; rename_i e2; have hx := ok_d e2; exact Nat.le_trans (ok_d (by assumption)) hx)
    | (simp only [Stepped.next.injEq] at h; subst h; rename_i e2; have hx := halt_d e2; exact Nat.le_trans (ok_d (by assumption)) hx)
    | (simp only [Stepped.next.injEq] at h; subst h; have hx := ok_d (p := p) (w := w) (by assumption); exact hx)
    | split at h
theorem look_d (p : Program) (gs : Array Goroutine) (rest : Rest) (w : World) (m' : Machine)
    (h : look p gs rest w = .next m') : w.drawn ≤ m'.world.drawn := by
  unfold look at h
  simp only [] at h
  repeat' first
    | (simp at h; done)
    | (simp only [Stepped.next.injEq] at h; subst h; have hx := ok_d (p := p) (w := w) (by assumption); exact hx)
    | split at h
theorem drain_d (w : World) (c : Nat) : (drain w c).2.drawn = w.drawn := by
  unfold drain
  split <;> rfl
theorem retime_d (m : Machine) (k : Nat) (t : Timer) (a b : Nat) : (retime m k t a b).2.world.drawn = m.world.drawn := by
  unfold retime
  cases t.chan with
  | none => rfl
  | some c => exact drain_d m.world c
theorem opened_d {m m1 : Machine} {var : Addr} (h : timerOp.opened m var = some m1) : m1.world.drawn = m.world.drawn := by
  unfold timerOp.opened at h
  repeat' first
    | (cases h; done)
    | (cases h; rfl)
    | split at h
theorem timerOp_d (m : Machine) (op : TimerOp) (v : Value) (m' : Machine) (h : timerOp m op = .ok (v, m')) : m.world.drawn ≤ m'.world.drawn := by
  unfold timerOp timerOp.named at h
  repeat' first
    | (cases h; done)
    | (cases h; exact Nat.le_refl _)
    | (simp only [Except.ok.injEq] at h; have h2 := congrArg (fun x => x.2.world.drawn) h; simp only [retime_d] at h2; first | exact Nat.le_of_eq h2 | exact Nat.le_of_eq ((opened_d (by assumption)).symm.trans h2))
    | split at h
theorem serve_d (p : Program) (m m' : Machine) (k : Nat) (h : serve p m k = .next m') : m.world.drawn ≤ m'.world.drawn := by
  unfold serve at h
  simp only [] at h
  repeat' first
    | (simp at h; done)
    | (simp only [Stepped.next.injEq] at h; subst h; exact Nat.le_refl _)
    | split at h

theorem runT_d (p : Program) (m m' : Machine) (i : Nat) (b : Bool) (h : (runT p m i b).1 = .next m') : m.world.drawn ≤ m'.world.drawn := by
  simp only [runT] at h
  revert h
  generalize m.gs.swapAt! _ _ = gg
  have hs := stepG_d p (i == 0) gg.1 m.world b
  revert hs
  generalize stepG p _ gg.1 m.world b = s
  intro hs h
  cases s <;> simp only [] at h <;> simp only [okG] at hs
  all_goals first
    | (simp at h; done)
    | (exact Nat.le_trans hs (communicate_d _ _ _ _ _ _ _ _ _ _ h))
    | (exact Nat.le_trans hs (look_d _ _ _ _ _ h))
    | (simp only [Stepped.next.injEq] at h; subst h; exact hs)
    | (repeat' first
        | (simp at h; done)
        | (simp only [Stepped.next.injEq] at h; subst h; exact hs)
        | (simp only [Stepped.next.injEq] at h; subst h; rename_i e; exact Nat.le_trans hs (timerOp_d _ _ _ _ e))
        | (simp only [Stepped.next.injEq] at h; subst h; rename_i e; unfold endThrow dieOf at e; cases e; exact hs)
        | split at h)
/-- What a move leads to. -/
def okM (d : Nat) : Move → Prop
  | .goroutine m _ => d ≤ m.world.drawn
  | .machine (.next m) _ => d ≤ m.world.drawn
  | .machine (.ended _ _) _ => True
theorem okM_le {d d' : Nat} {x : Move} (hd : d ≤ d') (h : okM d' x) : okM d x := by
  cases x with
  | goroutine m i => exact Nat.le_trans hd h
  | machine s ops => cases s <;> first | exact Nat.le_trans hd h | exact True.intro
theorem serveM_d (p : Program) (m : Machine) (k : Nat) (ops : Array MemOp) : okM m.world.drawn (.machine (serve p m k) ops) := by
  cases e : serve p m k with
  | next m' => exact serve_d p m m' k e
  | ended o w => exact True.intro
theorem advance_d (m : Machine) (t : Nat) : (m.advanceTo t).world.drawn = m.world.drawn := rfl
theorem askOn_d (p : Program) (m : Machine) : okM m.world.drawn (askOn p m) := by
  unfold askOn
  simp only []
  repeat' first
    | exact True.intro
    | exact Nat.le_refl _
    | (refine okM_le ?_ (serveM_d _ _ _ _); exact ok_d (by assumption))
    | (simp only [okM, advance_d]
       repeat first
         | exact Nat.le_refl _
         | (refine Nat.le_trans ?_ (ok_d (by assumption)); try simp only [advance_d])
       done)
    | split
theorem ask_m (p : Program) (m : Machine) : okM m.world.drawn (ask p m) := by
  unfold ask
  split
  · split
    · exact True.intro
    · rename_i e
      cases hl : look p m.gs m.rest _ with
      | next m2 => exact okM_le (Nat.le_trans (ok_d e) (look_d _ _ _ _ _ hl)) (askOn_d p m2)
      | ended o w => exact True.intro
    · rename_i e
      exact okM_le (ok_d e) (askOn_d p _)
  · exact askOn_d p m
theorem move_d (p : Program) (m : Machine) : okM m.world.drawn (move p m) := by
  unfold move
  repeat' first
    | exact True.intro
    | exact Nat.le_refl _
    | exact ask_m p _
    | split
/-- A step takes no answer back. -/
theorem step_d (p : Program) (m m' : Machine) (h : step p m = .next m') : m.world.drawn ≤ m'.world.drawn := by
  unfold step stepT at h
  have hm := move_d p m
  cases e : move p m with
  | goroutine m1 i =>
    rw [e] at h hm
    exact Nat.le_trans hm (runT_d p m1 m' i true h)
  | machine s ops =>
    rw [e] at h hm
    simp only [] at h
    subst h
    exact hm
theorem steps_d {p : Program} {m m' : Machine} (h : Steps p m m') : m.world.drawn ≤ m'.world.drawn := by
  obtain ⟨n, hn⟩ := h
  induction n generalizing m with
  | zero => simp [runN] at hn; exact hn ▸ Nat.le_refl _
  | succ n ih =>
    simp only [runN] at hn
    cases hs : step p m with
    | next m1 => rw [hs] at hn; exact Nat.le_trans (step_d p m m1 hs) (ih hn)
    | ended o w => rw [hs] at hn; simp at hn
/-- A call that comes to its end has drawn as many answers as before, or more. -/
theorem calls_d {P : Program} {f : FuncId} {args : Array Value} {w : World} {R : Ending → World → Prop} (h : Calls P f args w R) :
    Calls P f args w (fun e w' => R e w' ∧ (e ≠ .outgrown → w.drawn ≤ w'.drawn)) := by
  intro cs
  obtain ⟨e, w', fr, hR, hc, hf, hl⟩ := h cs
  refine ⟨e, w', fr, ⟨hR, fun hne => ?_⟩, hc, hf, hl⟩
  cases e with
  | returned v => exact steps_d (m := lone _ cs w) (m' := lone fr cs w') hc
  | panicked c => exact steps_d (m := lone _ cs w) (m' := lone fr cs w') hc
  | outgrown => exact absurd rfl hne
end Go.Proofs.YtgfiahfoghnpkaaGreatDoor.Drawn
