import PyProof.Rows.All
import Wide.All
import OpenK.AllK
import Wide.FinOn
import Lean
import PyProof.EqAt
import PyProof.EqKinds
import PyProof.TupleCall
import KE.KTryMore
import OpenK.KOwn
import PyProof.Rows.CatchOwn
import PyProof.StrLawsTight
import PyProof.StrLawsJoin
import PyProof.ExcInit
import PyProof.ExcClass2
import PyProof.InstStore
import PyProof.AttrMissSeq
import PySem.Challenge.RW_fallsum_k61_whole_lines_and_loops_of_one
set_option Elab.async false
set_option linter.all false
set_option maxRecDepth 100000
namespace L2
open PySem PySem.Spec PyProof.Rows

noncomputable abbrev Key := Sum Int Str
end L2

namespace L2
open PySem PySem.Spec PyProof.Rows

inductive V where
  | non | bl (b : Bool) | int (i : Int) | str (x : Str) | byt (b : Array UInt8) | flt (b : UInt64) | ref (a : Addr) | ty (n : String)
  deriving DecidableEq

inductive HO where
  /-- a list -/
  | lst (xs : List V)
  /-- a tuple (never changes) -/
  | tup (xs : List V)
  /-- a dict whose keys are ints and texts; one whose keys are tuples of ints and texts (the empty one is both) -/
  | dK (kvs : List (Key × V)) | dT (kvs : List (List Key × V))
  /-- a set of ints: its members, its size -/
  | set (S : Int → Bool) (n : Nat)
  /-- an instance of the class at C, its dict at dx, its attributes -/
  | ins (C dx : Addr) (fs : List (Str × V))
  /-- the dict of the instance at x -/
  | own (x : Addr)
  /-- the dict of an exception -/
  | xd (fs : List (Str × V))
  /-- a bound method, f of x -/
  | met (f x : Addr)
  /-- a range object lo, lo + 1, .. below hi -/
  | rng (lo hi : Int)
  /-- a thing that is known to the object (the script; a dict while a loop walks it): read, never written while it is so -/
  | frz (o : Obj) (u : HO)
  /-- a code object's table -/
  | tbl (ps : Array Value)
  /-- any other thing, by what is true of its one object (a def of one's own: SetO a S n := HO.ext fun h => ..) -/
  | ext (φ : Heap → Prop)

noncomputable abbrev Hp := Addr → Option HO
section
variable (P : Program) (w : World)
end

section
variable {P : Program} {w : World} {H H' : Hp} {h h' : Heap} {a : Addr} {o : HO}
end

section
variable {P : Program} {w : World} {H : Hp} {h h' : Heap} {x e : Addr} {o' : HO}
end

section
variable {fs fs' ex ex' : List Addr} {H H1 H2 : Hp} {h h1 h2 h' : Heap} {a x e : Addr} {o : HO}
end

noncomputable def allNews (g h : Heap) (L : Addr) : List (Addr × Obj) := (List.range h.objs.size).filterMap fun a => if a = L ∨ (g.get? a).isSome = true then none else (h.get? a).map fun o => (a, o)
noncomputable def rest (g h : Heap) (L d : Addr) : List (Addr × Obj) := (allNews g h L).filter fun p => decide (p.1 ≠ d)
end L2

namespace L2
open PySem PySem.Spec PyProof.Rows

structure Cx where
  prog : Program
  w : World
  K : PySem.W.Frag
  mg : Str → Option Value
  base : Heap
  A : Around
  N : List Str
  s₀ : Shared
  H₀ : Hp
  env : Env
  outer : List Env
  stack : List Env
  ex : List Addr
  fn : Str → Bool
  calm : Bool
  pn : List (Addr × Obj)
  xe : Value → Shared → Prop
section
variable {X : Cx} {pins : List (Addr × Obj)} {σ : List (Option V)} {H H' : Hp} {s : Shared} {h' : Heap}

end

noncomputable abbrev XK := Value → Option Addr → Hp → Prop
noncomputable abbrev St := List (Option V)
noncomputable abbrev VK := V → Hp → Prop
noncomputable abbrev TE := St → Hp → VK → Prop
noncomputable abbrev TT := St → Hp → (Bool → Hp → Prop) → Prop
noncomputable abbrev TA := St → Hp → (List V → Hp → Prop) → Prop
structure Ends where
  nx : St → Hp → Prop
  rt : VK
  bk : St → Hp → Prop := fun _ _ => False
  ct : St → Hp → Prop := fun _ _ => False
noncomputable abbrev TS := Ends → St → Hp → Prop

end L2

namespace L2
open PySem PySem.Spec PyProof.Rows
section
variable {X : Cx}

variable {a b : Expr} {ta tb : TE} {pos : Pos}
variable {tA tB' : TT} {rest : List Expr}
end
end L2

namespace L2
open PySem PySem.Spec PyProof.Rows

section
variable {X : Cx} {pins : List (Addr × Obj)} {σ : St} {H : Hp} {s : Shared} {a : Addr} {xs ys : List V}
end

section
variable {X : Cx} {pins : List (Addr × Obj)} {σ : St} {H : Hp} {s : Shared} {E : Value → Shared → Prop}
end

section
variable {X : Cx} {st : Stmt} {rest : List Stmt} {t u : TS} {e : Expr} {te : TE} {pos : Pos}
end

noncomputable abbrev TG := V → St → Hp → (St → Hp → Prop) → Prop
section
variable {X : Cx} {pos : Pos}
end

section
variable {X : Cx} {pos : Pos}
end

structure It where
  go : Nat → Hp → Prop
  yld : Nat → Hp → V → Hp → Prop
  stop : Nat → Hp → Prop
noncomputable abbrev TI := St → Hp → (It → Hp → Prop) → Prop
end L2

namespace L2
open PySem PySem.Spec PyProof.Rows
section
variable {X : Cx} {tg : Expr}
end

end L2

namespace L2
open PySem PySem.Spec PyProof.Rows

section
variable {X : Cx} {a b c : Expr} {ta tb tc : TE} {pos : Pos}

end

section
variable {X : Cx} {a b c : Expr} {ta tb tc : TE} {pos : Pos}
end
end L2

namespace L2
open PySem PySem.Spec PyProof.Rows

section
variable {prog : Program} {w : World} {A : Around} {E : Value → Shared → Prop} {s : Shared} {K : PySem.W.Frag} {x dx C f : Addr} {mA : Str → Option Value} {name : Str} {v : Value}

end

section
variable {P : Program} {w : World} {H H' : Hp} {h h' : Heap} {a C dx : Addr} {fs fs' : List (Str × V)}
end

section
variable {X : Cx} {pins : List (Addr × Obj)} {σ : St} {H : Hp} {s : Shared} {a C dx : Addr} {fs : List (Str × V)} {f : Str} {v : V} {A : Around} {E : Value → Shared → Prop}

end

section
variable {X : Cx} {o e value : Expr} {f : Str} {pos pos' tpos : Pos} {ta tv : TE}
end

section
variable {X : Cx} {pins : List (Addr × Obj)} {σ : St} {H : Hp} {s : Shared} {A : Around} {E : Value → Shared → Prop} {Q : Value → Shared → Prop} {c : Value} {b : Bool}
end
end L2

namespace L2
open PySem PySem.Spec PyProof.Rows

section
variable {X : Cx} {e : Expr} {es : List Expr} {te : TE} {t : TA} {pos : Pos}
end

noncomputable abbrev Sp := List V → Hp → VK → XK → Prop
noncomputable abbrev CXT := List Env → Hp → Shared → XK → Value → Shared → Prop

section
variable {X : Cx} {pins : List (Addr × Obj)} {σ : St} {H : Hp} {s s' : Shared}
end

section
variable {X : Cx} {CX : CXT} {k : Nat} {f C : Addr} {fd : FuncData} {ps : List Str} {sp : Sp} {dvs : List V} {ds : List Value} {E : XK} {x m : Str} {p pos apos : Pos} {e o : Expr} {es : List Expr} {ta : TE} {t : TA}

end

section
variable {X : Cx} {CX : CXT} {k : Nat} {f C : Addr} {fd : FuncData} {ps ks : List Str} {sp : Sp} {E : XK} {x m : Str} {p pos apos kpos : Pos} {e o : Expr} {es : List Expr} {kws : List Keyword} {te ta : TE} {t tk : TA} {nm : Option Str}
variable {g : List Value → List Value → List Value} {gV : List V → List V → List V}
end

end L2

namespace L2
open PySem PySem.Spec PyProof.Rows
section
variable {X : Cx} {x : Str} {p pos : Pos} {e : Expr} {es : List Expr} {t : TA} {id T : String} {r : List V → Hp → VK → Prop}

end
end L2

namespace HT
open PySem PyProof.Rows

section
open PySem.SeqAt
open PySem.AutoSeq1 (wpAny_loadPart')
open PySem.MeetsSeq PySem.MeetsSeq2 PySem.MeetsSeq3

end

section
variable {prog : Program} {w : World} {A : Around} {E : Value → Shared → Prop} {s : Shared}

end
end HT

namespace L2
open PySem PySem.Spec PyProof.Rows

noncomputable abbrev TO := St → Hp → (Option Int → Hp → Prop) → Prop
section
variable {X : Cx} {e : Expr} {te : TE} {lo hi : Option Expr} {tl th : TO} {pos p2 : Pos}

end
end L2

namespace L2
open PySem PySem.Spec PyProof.Rows

section
variable {X : Cx} {a b : Expr} {ta tb : TE} {pos : Pos}
variable {o e : Expr} {es : List Expr} {to : TE} {t : TA} {name : Str} {apos cpos : Pos} {T id : String} {r : V → List V → Hp → VK → Prop}
end
end L2

namespace L2
open PySem PySem.Spec PyProof.Rows

section
variable {X : Cx} {pins : List (Addr × Obj)} {σ : St} {H : Hp} {s : Shared} {l b : Addr} {xs ys zs : List V}

end

section
variable {X : Cx}

end

section
variable {prog : Program} {w : World} {A : Around} {E : Value → Shared → Prop} {s : Shared}
end

section
variable {X : Cx}
end
end L2

namespace L2
open PySem PySem.Spec PyProof.Rows

section
variable {κ : Type} [DecidableEq κ]
end


section
variable {P : Program} {w : World} {H : Hp} {h : Heap} {a : Addr}
end

section
variable {X : Cx} {pins : List (Addr × Obj)} {σ : St} {H : Hp} {s : Shared} {a : Addr} {y v : V} {u r : Value} {o : Option V} {A : Around} {E : Value → Shared → Prop}

end

section
variable {X : Cx} {pins : List (Addr × Obj)} {σ : St} {H : Hp} {s : Shared} {a : Addr} {kvs : List (Key × V)} {k : Key} {u : Value} {A : Around} {E : Value → Shared → Prop}
end


section
variable {X : Cx} {o i e value : Expr} {pos pos' tpos : Pos} {td ty tv : TE}
end


section
variable {X : Cx} {pos : Pos}
end

section
variable {X : Cx} {pins : List (Addr × Obj)} {σ : St} {H : Hp} {s : Shared} {a : Addr} {y d : V} {u r : Value} {o : Option V} {A : Around} {E : Value → Shared → Prop}
end

section
variable {X : Cx} {o e f : Expr} {apos cpos : Pos} {td ty tx : TE}
end

section
variable {X : Cx} {pins : List (Addr × Obj)} {σ : St} {H : Hp} {s : Shared} {a : Addr} {kvs : List (Key × V)} {A : Around} {E : Value → Shared → Prop}
end


section
variable {X : Cx} {pins : List (Addr × Obj)} {σ : St} {H : Hp} {s : Shared} {a : Addr} {y : V} {u : Value} {A : Around} {E : Value → Shared → Prop}
end
end L2

namespace Att
open PySem PySem.W PySem.Calls PyProof.Rows

section
variable {prog : Program} {w : World} {A : Around} {E : Value → Shared → Prop} {s : Shared} {K : Frag}

end
end Att

namespace L2
open PySem PySem.Spec PyProof.Rows

end L2

namespace L2
open PySem PySem.Spec PyProof.Rows

end L2


namespace L2
open PySem PySem.Spec PyProof.Rows

section
variable {P : Program} {w : World} {K : PySem.W.Frag} {mg : Str → Option Value} {base : Heap}
end
section
variable {X : Cx}
end

section
variable {κ : Type} [DecidableEq κ]
end
end L2

set_option maxHeartbeats 4000000
namespace L2
open PySem PySem.Spec PyProof.Rows

section
variable {X : Cx} {pins : List (Addr × Obj)} {σ : St} {H : Hp} {s : Shared} {scope : Scope} {N' : List Str} {k : Nat} {idx : List Nat} {sc : Scope} {N : List Str}
end

section
variable {X : Cx} {tg iter elt : Expr} {ifs : List Expr} {scope sc : Scope} {N N' : List Str} {k : Nat} {idx : List Nat} {wi : TI} {g : TG} {tt : TT} {te : TE} {pos : Pos}
end
end L2

namespace L2
open PySem PySem.Spec PyProof.Rows

section
variable {X : Cx}
end
end L2

namespace L2
open PySem PySem.Spec PyProof.Rows

section
variable {X : Cx} {x : Str} {e : Expr} {es : List Expr} {p pos : Pos} {t : TA} {k : Nat} {ps : List Str} {sp : Sp}
end

end L2

namespace L2
open PySem PySem.Spec PyProof.Rows
section
variable {X : Cx}
end
section
variable {X : Cx}
end
end L2
namespace L2
open PySem PySem.Spec PyProof.Rows
end L2

namespace My
open PySem PySem.Spec PyProof.Rows L2
end My

namespace My
open PySem PySem.Spec PyProof.Rows L2
section
variable (c : Addr) (r s : Int) (t : Int × Option Int) (x : Int)
end
end My

namespace My
open PySem PySem.Spec PyProof.Rows L2
end My

namespace L2
open PySem PySem.Spec PyProof.Rows
section
variable {X : Cx} {es : List Expr} {te : TE} {t : TA} {pos : Pos}
end
section
variable {X : Cx} {es : List Expr} {te : TE} {t : TA} {pos : Pos}
end
end L2
namespace L2
open PySem PySem.Spec PyProof.Rows
end L2

namespace My
open PySem PySem.Spec PyProof.Rows L2
structure Way where
  a : Int
  b : Int
  g : List Int
end My

namespace L2
open PySem PySem.Spec PyProof.Rows
section
variable {α : Type} {a b c d e f x : α} {l : List α}
end
section
variable {prog : Program} {w : World} {A : Around} {E : Value → Shared → Prop} {s : Shared}
end
section
open AutoSeq1 (wpAny_loadPart')
end
end L2

namespace L2
open PySem PySem.Spec PyProof.Rows
section
variable {prog : Program} {w : World} {A : Around} {E : Value → Shared → Prop} {s : Shared} {z TI TO j1 j2 : Addr} {f1 f2 : List Addr} {n1 n2 i : Nat} {P1 P2 : Nat → Value → Prop} {St1 St2 : Nat → Heap → Prop} {a b : Value}
end
end L2

namespace L2
open PySem PySem.Spec PyProof.Rows
section
variable {X : Cx} {pins : List (Addr × Obj)} {σ : St} {H : Hp} {s : Shared} {a c : Addr} {xs ys : List V} {b : Bool} {h' : Heap}
end
section
variable {X : Cx} {es : List Expr} {kk : Nat} {tp : Pos}
end
end L2

namespace L2
open PySem PySem.Spec PyProof.Rows
section
variable {X : Cx} {pos : Pos} {k : Nat}
end
end L2

namespace My
open PySem PySem.Spec PyProof.Rows L2
end My

namespace My
open PySem PySem.Spec PyProof.Rows L2
noncomputable def wayAt (ws : List Way) (k : Int) : Way := ws.getD k.toNat ⟨0, 0, []⟩
end My

namespace L2
open PySem PySem.Spec PyProof.Rows
section
variable {X : Cx} {K' : PySem.W.Frag}
end
end L2

namespace L2
open PySem PySem.Spec PyProof.Rows
section
variable {X : Cx} {e st : Expr} {te : TE} {ts : TO} {pos p2 : Pos}
end
end L2
namespace L2
open PySem PySem.Spec PyProof.Rows
end L2

namespace My
open PySem PySem.Spec PyProof.Rows L2
end My

namespace L2
open PySem PySem.Spec PyProof.Rows
section
variable {X : Cx}
end
end L2
namespace My
open PySem PySem.Spec PyProof.Rows L2
end My

namespace L2
open PySem PySem.Spec PyProof.Rows
section
variable {prog : Program} {w : World} {A : Around} {E : Value → Shared → Prop} {s : Shared} {z TI TO j1 j2 j3 : Addr} {f1 f2 f3 : List Addr} {n1 n2 n3 i : Nat} {P1 P2 P3 : Nat → Value → Prop} {St1 St2 St3 : Nat → Heap → Prop} {a b c : Value}
end
end L2

namespace L2
open PySem PySem.Spec PyProof.Rows
section
variable {X : Cx} {es : List Expr} {kk : Nat} {tp : Pos}
end
end L2

namespace My
open PySem PySem.Spec PyProof.Rows L2
end My

namespace L2
open PySem PySem.Spec PyProof.Rows
section
variable {X : Cx}
end
end L2
namespace My
open PySem PySem.Spec PyProof.Rows L2
end My

namespace My
open PySem PySem.Spec PyProof.Rows L2
end My

namespace My
open PySem PySem.Spec PyProof.Rows L2
end My

namespace My
open PySem PySem.Spec PyProof.Rows L2
end My

namespace My
open PySem PySem.Spec PyProof.Rows L2
section
variable {X : Cx} {pos : Pos} {k : Nat}
end
end My

namespace My
open PySem PySem.Spec PyProof.Rows L2
end My

namespace My
open PySem PySem.Spec PyProof.Rows L2
end My

namespace L2
open PySem PySem.Spec PyProof.Rows
section
variable {X : Cx}
end
end L2

namespace My
open PySem PySem.Spec PyProof.Rows L2
end My

namespace My
open PySem PySem.Spec PyProof.Rows L2
end My

namespace My
open PySem PySem.Spec PyProof.Rows L2
section
variable {p c sl : Addr} {R U : Int} {ws : List Way} {bv : V} {sums : List (List Int × List Int)} {svs : List V} {H H' : Hp} {n m : Nat}
end
end My

namespace L2
open PySem PySem.Spec PyProof.Rows
section
variable {P : Program} {w : World} {H H' : Hp} {h h' : Heap} {a : Addr} {o : HO}
end
section
variable {X : Cx} {pins : List (Addr × Obj)} {σ : St} {H H' : Hp} {s s' : Shared}
end
section
variable {P : Program} {w : World} {K : PySem.W.Frag} {mg : Str → Option Value} {base : Heap} {N : List Str} {qual : Str} {scope : Scope} {f : Addr} {cd : Value} {A : Around} {outer : List Env} {s₀ : Shared} {H₀ : Hp} {E : XK}
end
end L2

namespace L2
open PySem PySem.Spec PyProof.Rows PySem.W Builtin Builtin.ObjectAttr Builtin.Getset_descriptor
section
variable {prog : Program} {w : World} {A : Around} {E : Value → Shared → Prop} {s : Shared} {K : PySem.W.Frag} {x D : Addr} {R : Result → Shared → Prop}
end
end L2

namespace L2
open PySem PySem.Spec PyProof.Rows
section
variable {P : Program} {w : World} {K : PySem.W.Frag} {mg : Str → Option Value} {base : Heap} {N : List Str} {qual : Str} {scope : Scope} {f : Addr} {cd : Value} {A : Around} {outer : List Env} {s₀ : Shared} {H₀ : Hp} {E : XK}
  {x : Str} {C : Addr} {e : Expr} {es : List Expr} {np cpos pos : Pos} {t : TA}
end
section
variable {P : Program} {w : World} {K : PySem.W.Frag} {mg : Str → Option Value} {base : Heap}
end
section
variable {X : Cx} {x : Str} {e : Expr} {es : List Expr} {p pos : Pos} {t : TA} {k : Nat} {ps : List Str} {sp : Sp} {E : XK}
end
noncomputable abbrev XW := St → Value → Hp → Prop
noncomputable abbrev TSX := Ends → XW → St → Hp → Prop
section
variable {X : Cx} {x y : Str} {e : Expr} {es : List Expr} {p p' pos apos : Pos} {t : TA} {k : Nat} {ps : List Str} {sp : Sp}
end
end L2

namespace L2
open PySem PySem.Spec PyProof.Rows
section
variable {X : Cx} {pins : List (Addr × Obj)} {σ σ0 : St} {H H0 : Hp} {s s0 : Shared} {B h' : Heap}
end
end L2

namespace L2
open PySem PySem.Spec PyProof.Rows
section
variable {X : Cx} {body : List Stmt} {tb : TSX} {ts : TS} {b₀ : Stmt} {suite : List Stmt} {c n : Str} {C : Addr} {i : Nat} {np hpos pos : Pos}
end
end L2

namespace L2
open PySem PySem.Spec PyProof.Rows PySem.SeqAt
section
variable {P : Program} {w : World} {K : PySem.W.Frag} {mg : Str → Option Value} {base : Heap}
end
section
variable {X : Cx} {x : Str} {e : Expr} {es : List Expr} {p pos : Pos} {t : TA} {k : Nat} {ps : List Str} {sp : Sp}
end
end L2

namespace L2
open PySem PySem.Spec PyProof.Rows
structure Er where
  fall : Addr
  way : Addr
  round : Addr
  ring : Addr
  purse : Addr
  end_ : Addr
  stand : Addr
  many : Addr
  line : Addr
  row : Addr
section
variable {K : PySem.W.Frag} {mg : Str → Option Value} {z : Er}
end
section
variable {X : Cx} {v : Expr} {te : TE} {a b : Str} {ja jb : Nat} {pa pb pf pos : Pos}
end
end L2

namespace L2
open PySem PySem.Spec PyProof.Rows
section
variable {X : Cx} {x : Str} {e : Expr} {es : List Expr} {p pos apos : Pos} {t : TA} {k : Nat} {ps : List Str} {sp : Sp}
variable {body : List Stmt} {tb : TSX} {ts : TS} {b₀ : Stmt} {suite : List Stmt} {c : Str} {C : Addr} {np hpos : Pos}
end
end L2
namespace My
open PySem PySem.Spec PyProof.Rows L2
end My
namespace My
open PySem PySem.Spec PyProof.Rows L2
end My
namespace My
open PySem PySem.Spec PyProof.Rows L2
end My
namespace My
open PySem PySem.Spec PyProof.Rows L2
end My

namespace HT
open PySem PySem.Spec PyProof.Rows
section
variable {prog : Program} {w : World} {A : Around} {E : Value → Shared → Prop} {s : Shared}
end
end HT
namespace L2
open PySem PySem.Spec PyProof.Rows
end L2
namespace My
open PySem PySem.Spec PyProof.Rows L2
end My
namespace My
open PySem PySem.Spec PyProof.Rows L2
end My

namespace My
open PySem PySem.Spec PyProof.Rows L2
end My

namespace L2
open PySem PySem.Spec PyProof.Rows
end L2
namespace My
open PySem PySem.Spec PyProof.Rows L2
section
variable {p c wl : Addr} {R U : Int} {ws : List Way} {bv fv hv : V} {r : Int} {xs : List Int} {Hs H H' : Hp} {ns : List Int}
end
end My
namespace My
open PySem PySem.Spec PyProof.Rows L2
end My
namespace My
open PySem PySem.Spec PyProof.Rows L2
end My
namespace L2
open PySem PySem.Spec PyProof.Rows
end L2

namespace L2
open PySem PySem.Spec PyProof.Rows
section
variable {prog : Program} {w : World} {A : Around} {E : Value → Shared → Prop} {s : Shared} {l : Addr} {xs : Array (Int × Tok)}
end
section
variable {X : Cx}
end
end L2

namespace My
open PySem PySem.Spec PyProof.Rows L2
end My
namespace My
open PySem PySem.Spec PyProof.Rows L2
end My
namespace My
open PySem PySem.Spec PyProof.Rows L2
end My

namespace My
open PySem PySem.Spec PyProof.Rows L2
end My

namespace L2
open PySem PySem.Spec PyProof.Rows
section
variable {X : Cx}
end
end L2

namespace My
open PySem PySem.Spec PyProof.Rows L2
end My

namespace My
open PySem PySem.Spec PyProof.Rows L2
end My

namespace My
open PySem PySem.Spec PyProof.Rows L2
inductive Rt (es : List (Nat × Nat)) : Nat → Nat → Prop
  | refl (a : Nat) : Rt es a a
  | step {a b c : Nat} : Rt es a b → (b, c) ∈ es → Rt es a c
end My

namespace L2
open PySem PySem.Spec PyProof.Rows
section
variable {M : Model} {A : Around} {E : Value → Shared → Prop} {s : Shared}
end
section
variable {X : Cx} {pins : List (Addr × Obj)} {σ : St} {H : Hp} {s : Shared} {scope : Scope} {N' : List Str} {k : Nat} {idx : List Nat} {sc : Scope} {N : List Str}
end
section
variable {X : Cx} {tg iter elt : Expr} {ifs : List Expr} {scope sc : Scope} {N N' : List Str} {k : Nat} {idx : List Nat} {wi : TI} {g : TG} {tt : TT} {te : TE} {pos : Pos}
end
end L2

namespace My
open PySem PySem.Spec PyProof.Rows L2
end My

namespace My
open PySem PySem.Spec PyProof.Rows L2

inductive Vl where
  | jnk | jar | tape | d (x : PyData) | own (xs : List PyData) | dct (kvs : List (Key × PyData)) | own2 (ks : Option (List Key)) (ps : List (Addr × List PyData)) | pin (v : V) (x : PyData)
structure Src where
  jv : V
  ch : List Addr
  inv : Nat → Hp → Prop
  keep : ∀ {n : Nat} {H H' : Hp}, inv n H → (∀ b ∈ ch, ∀ o, H b = some o → H' b = some o) → inv n H'
  dom : ∀ {n : Nat} {H : Hp}, inv n H → ∀ b ∈ ch, H b ≠ none
section
variable {S : Src} {n m : Nat} {H H1 H2 H' : Hp} {ex : List Addr}
end
section
variable {S : Src} {n m : Nat} {H H1 H2 H' : Hp} {ex : List Addr} {env : List Vl} {σ : L2.St}
end
noncomputable abbrev GE := List Vl → Nat → (PyData → Nat → Prop) → Prop
noncomputable abbrev GA := List Vl → Nat → (List Vl → Nat → Prop) → Prop
noncomputable abbrev GN := List Vl → Nat → (List PyData → Nat → Prop) → Prop
section
variable {S : Src} {n m : Nat} {H H1 H2 H' : Hp} {ex : List Addr} {env : List Vl} {σ : L2.St} {b : Bool} {te ta tb tc : TE} {g ga gb gc : GE}
end
end My

namespace My
open PySem PySem.Spec PyProof.Rows L2

section
variable {b : Bool} {te : TE} {g : GE}
end
end My

namespace My
open PySem PySem.Spec PyProof.Rows L2

section
variable {K : PySem.W.Frag} {S : Src} {n m : Nat} {H H1 H2 H' : Hp} {ex : List Addr} {env : List Vl} {σ : L2.St} {b : Bool} {te ta tb tc : TE} {g ga gb gc : GE} {wi : TI} {gi : GN}
end

end My

namespace My
open PySem PySem.Spec PyProof.Rows L2

structure VEnds where
  nx : List Vl → Nat → Prop
  rt : PyData → Nat → Prop
  rtn : List PyData → Nat → Prop
  bk : List Vl → Nat → Prop := fun _ _ => False
  ct : List Vl → Nat → Prop := fun _ _ => False
  xc : XK → Addr → Nat → Prop := fun _ _ _ => False
  rt2 : List (List PyData) → Nat → Prop := fun _ _ => False
noncomputable abbrev GS := VEnds → List Vl → Nat → Prop
structure Cv where
  S : Src
  ex0 : List Addr
  H0 : Hp
  held : List (PyData × V)
section
variable {C : Cv} {ex : List Addr} {env : List Vl} {σ : L2.St} {H H' : Hp} {n m : Nat}
end

section
variable {te ta : TE} {ge ga : GE} {gn : GN} {t u tb : TS} {gt gu gb : GS} {i j : Nat} {K : PySem.W.Frag}
end

end My

namespace My
open PySem PySem.Spec PyProof.Rows L2

section
variable {turn : PyData → Nat → (Option PyData → Nat → Prop) → Prop} {items : List PyData} {n : Nat} {Q : List PyData → Nat → Prop}
end
end My

namespace My
open PySem PySem.Spec PyProof.Rows L2

section
variable {X : Cx}
end
section
variable {K : PySem.W.Frag} {H : Hp} {ex : List Addr}
end
end My

namespace My
open PySem PySem.Spec PyProof.Rows L2

end My

namespace My
open PySem PySem.Spec PyProof.Rows L2

end My

namespace My
open PySem PySem.Spec PyProof.Rows L2

end My

namespace My
open PySem PySem.Spec PyProof.Rows L2

end My

namespace My
open PySem PySem.Spec PyProof.Rows L2

end My

namespace L2
open PySem PySem.Spec PyProof.Rows

section
variable {X : Cx} {x : Str} {e : Expr} {es : List Expr} {p pos : Pos} {t : TA} {k : Nat} {ps : List Str} {sp : Sp} {i : Int}
end
end L2
namespace My
open PySem PySem.Spec PyProof.Rows L2
end My

namespace My
open PySem PySem.Spec PyProof.Rows L2

end My

namespace My
open PySem PySem.Spec PyProof.Rows L2

end My

namespace My
open PySem PySem.Spec PyProof.Rows L2

noncomputable abbrev GSx := List Vl → Nat → (PyData → Nat → Prop) → (Addr → Nat → Prop) → Prop
end My

namespace My
open PySem PySem.Spec PyProof.Rows L2

end My

namespace My
open PySem PySem.Spec PyProof.Rows L2

end My

namespace My
open PySem PySem.Spec PyProof.Rows L2

end My

namespace My
open PySem PySem.Spec PyProof.Rows L2

end My

namespace My
open PySem PySem.Spec PyProof.Rows L2

end My

namespace My
open PySem PySem.Spec PyProof.Rows L2

end My

namespace My
open PySem PySem.Spec PyProof.Rows L2

noncomputable abbrev MT : Int := 10 ^ 100 - 1
end My

namespace My
open PySem PySem.Spec PyProof.Rows L2

end My

namespace My
open PySem PySem.Spec PyProof.Rows L2

end My

namespace My
open PySem PySem.Spec PyProof.Rows L2

mutual
noncomputable def smI : PyData → Bool
  | .int i => decide (i ≤ MT)
  | .tuple ds => smIs ds
  | .list ds => smIs ds
  | _ => true
noncomputable def smIs : List PyData → Bool
  | [] => true
  | d :: r => smI d && smIs r
end
end My

namespace HT
open PySem PySem.Spec PyProof.Rows
section
variable {prog : Program} {w : World} {A : Around} {E : Value → Shared → Prop} {s : Shared}
end
end HT
namespace L2
open PySem PySem.Spec PyProof.Rows
section
variable {X : Cx} {e st : Expr} {te : TE} {ts : TO} {pos p2 : Pos}
end
end L2
namespace My
open PySem PySem.Spec PyProof.Rows L2
section
variable {b : Bool} {te : TE} {g : GE}
end
end My

namespace My
open PySem PySem.Spec PyProof.Rows L2

noncomputable def gdB (d : PyData) : Bool := d.canLay0 && (d.intsShort 101 && (d.showable && smI d))
end My

namespace My
open PySem PySem.Spec PyProof.Rows L2

section
variable {d : PyData} {k n g : Int} (hg : gdB d = true) (gk : gdB (.int k) = true) (wk : (PyData.int k).weight ≤ 10) (gn : gdB (.int n) = true) (wn : (PyData.int n).weight ≤ 10) (gg : gdB (.int g) = true) (wg : (PyData.int g).weight ≤ 333)
include hg gk wk gn wn gg wg
end
end My

namespace L2
open PySem PySem.Spec PyProof.Rows
section
variable {X : Cx}
end
end L2
namespace My
open PySem PySem.Spec PyProof.Rows L2
end My

namespace My
open PySem PySem.Spec PyProof.Rows L2

end My

namespace My
open PySem PySem.Spec PyProof.Rows L2

end My

namespace My
open PySem PySem.Spec PyProof.Rows L2

section
variable {S : Src} {ex L : List Addr} {H H1 H2 : Hp} {w : Vl} {o : Option V}
end
end My

namespace My
open PySem PySem.Spec PyProof.Rows L2

section
variable {C : Cv} {ex : List Addr} {env : List Vl} {σ : L2.St} {H H' : Hp} {n m : Nat}
end
end My

namespace My
open PySem PySem.Spec PyProof.Rows L2

section
variable {C : Cv} {ex : List Addr} {env : List Vl} {σ : L2.St} {H H' : Hp} {n m : Nat}
end
end My

namespace My
open PySem PySem.Spec PyProof.Rows L2

end My

namespace My
open PySem PySem.Spec PyProof.Rows L2

section
variable {R a x y : Nat} {f g : Nat → Nat → Bool}
end
noncomputable def esOf (ws : List Way) (ks : List Int) : List (Nat × Nat) := ks.map fun k => ((wayAt ws k).a.toNat, (wayAt ws k).b.toNat)
end My

namespace My
open PySem PySem.Spec PyProof.Rows L2

section
variable {X : Cx} {pins : List (Addr × Obj)} {σ : L2.St} {H : Hp} {s : Shared} {a : Addr} {kvs : List (Key × V)} {k : Key} {u : Value} {A : Around} {E : Value → Shared → Prop}
end
section
variable {X : Cx} {o e f : Expr} {apos cpos p pos : Pos} {td ty tx : TE}
end
end My

namespace My
open PySem PySem.Spec PyProof.Rows L2

section
variable {C : Cv} {ex : List Addr} {env : List Vl} {σ : L2.St} {H H' : Hp} {n m : Nat}
end
end My

namespace My
open PySem PySem.Spec PyProof.Rows L2

end My

namespace My
open PySem PySem.Spec PyProof.Rows L2

end My

namespace My
open PySem PySem.Spec PyProof.Rows L2

end My

namespace My
open PySem PySem.Spec PyProof.Rows L2

end My

namespace My
open PySem PySem.Spec PyProof.Rows L2

end My

namespace My
open PySem PySem.Spec PyProof.Rows L2

end My

namespace My
open PySem PySem.Spec PyProof.Rows L2

end My

namespace My
open PySem PySem.Spec PyProof.Rows L2

noncomputable abbrev GSn2 := List Vl → Nat → (List (List PyData) → Nat → Prop) → Prop
section
variable {b : Bool} {i : Nat} {sp : GSn2} {E' : XK} {t : TA} {gt : GA}
end
end My

namespace My
open PySem PySem.Spec PyProof.Rows L2

end My

namespace My
open PySem PySem.Spec PyProof.Rows L2

end My

namespace My
open PySem PySem.Spec PyProof.Rows L2

end My

namespace L2
open PySem PySem.Spec PyProof.Rows My
section
variable {X : Cx}
end
end L2
namespace My
open PySem PySem.Spec PyProof.Rows L2
end My

namespace My
open PySem PySem.Spec PyProof.Rows L2

end My

namespace My
open PySem PySem.Spec PyProof.Rows L2
end My

namespace L2
open PySem PySem.Spec PyProof.Rows My
section
variable {X : Cx} {x y : Str} {e : Expr} {es : List Expr} {p p' pos apos : Pos} {t : TA} {k : Nat} {ps : List Str} {sp : Sp} {i : Int}
end
end L2

namespace My
open PySem PySem.Spec PyProof.Rows L2

noncomputable abbrev GSxn := List Vl → Nat → (List PyData → Nat → Prop) → (Addr → Nat → Prop) → Prop
section
variable {i : Nat} {sp : GSxn} {t : TA} {gt : GA} {tv : TE} {gv : GE} {d : Int}
end
end My

namespace My
open PySem PySem.Spec PyProof.Rows L2
end My

namespace L2
open PySem PySem.Spec PyProof.Rows My
section
variable {X : Cx} {tg iter kx vx : Expr} {ifs : List Expr} {scope sc : Scope} {N N' : List Str} {k : Nat} {idx : List Nat} {wi : TI} {g : TG} {tt : TT} {tk tv : TE} {pos : Pos}
end
end L2

namespace L2
open PySem PySem.Spec PyProof.Rows My
section
variable {X : Cx}
end
end L2

namespace My
open PySem PySem.Spec PyProof.Rows L2
section
variable {C : Cv} {ex : List Addr} {env : List Vl} {σ : L2.St} {H H' : Hp} {n m : Nat}
end
end My

namespace My
open PySem PySem.Spec PyProof.Rows L2
end My

namespace My
open PySem PySem.Spec PyProof.Rows L2
end My

namespace My
open PySem PySem.Spec PyProof.Rows L2
end My

namespace My
open PySem PySem.Spec PyProof.Rows L2
end My

namespace My
open PySem PySem.Spec PyProof.Rows L2
end My

namespace L2
open PySem PySem.Spec PyProof.Rows
section
variable {X : Cx} {pos p2 : Pos}
end
end L2

namespace My
open PySem PySem.Spec PyProof.Rows L2
end My

namespace My
open PySem PySem.Spec PyProof.Rows L2
end My

namespace L2
open PySem PySem.Spec PyProof.Rows PySem.SeqAt
section
variable {X : Cx}
end
end L2
namespace My
open PySem PySem.Spec PyProof.Rows L2
end My

namespace My
open PySem PySem.Spec PyProof.Rows L2
end My
namespace My
open PySem PySem.Spec PyProof.Rows L2
end My

namespace My
open PySem PySem.Spec PyProof.Rows L2
end My

namespace My
open PySem PySem.Spec PyProof.Rows L2
end My

namespace My
open PySem PySem.Spec PyProof.Rows L2
end My

namespace My
open PySem PySem.Spec PyProof.Rows L2
end My
namespace My
open PySem PySem.Spec PyProof.Rows L2
end My

namespace My
open PySem PySem.Spec PyProof.Rows L2
end My

namespace My
open PySem PySem.Spec PyProof.Rows L2
end My

namespace My
open PySem PySem.Spec PyProof.Rows L2
end My

namespace My
open PySem PySem.Spec PyProof.Rows L2
end My

namespace My
open PySem PySem.Spec PyProof.Rows L2
end My

namespace L2
open PySem PySem.Spec PyProof.Rows
section
variable {X : Cx}
end
end L2
namespace My
open PySem PySem.Spec PyProof.Rows L2
end My

namespace My
open PySem PySem.Spec PyProof.Rows L2
section
variable {n : Nat} {key : Nat → Int}
end
end My

namespace L2
open PySem PySem.Spec PyProof.Rows PySem.SeqAt
open AutoSeq1 (wpAny_loadPart')
section
variable {prog : Program} {w : World} {A : Around} {E : Value → Shared → Prop} {s : Shared}
end
end L2

namespace L2
open PySem PySem.Spec PyProof.Rows PySem.SeqAt
section
variable {prog : Program} {w : World} {A : Around} {E : Value → Shared → Prop} {s : Shared}
end
section
variable {X : Cx}
end
end L2
namespace L2
open PySem PySem.Spec PyProof.Rows PySem.SeqAt
section
variable {X : Cx}
end
end L2
namespace My
open PySem PySem.Spec PyProof.Rows L2
end My

namespace My
open PySem PySem.Spec PyProof.Rows L2
noncomputable abbrev rt (ws : List Way) (ks : List Int) (i j : Int) : Prop := Rt (esOf ws ks) (wayAt ws i).b.toNat (wayAt ws j).a.toNat
end My

namespace L2
open PySem PySem.Spec PyProof.Rows PySem.SeqAt
section
variable {X : Cx}
end
section
variable {X : Cx} {v : Expr} {te : TE} {a : Str} {ja : Nat} {pa pf pos : Pos}
end
end L2
namespace My
open PySem PySem.Spec PyProof.Rows L2
end My

namespace My
open PySem PySem.Spec PyProof.Rows L2
end My

namespace L2
open PySem PySem.Spec PyProof.Rows PySem.SeqAt
section
open AutoSeq1 (wpAny_loadPart')
end
section
variable {prog : Program} {w : World} {A : Around} {E : Value → Shared → Prop} {s : Shared}
end
section
variable {X : Cx} {es : List Expr} {kk : Nat} {tp : Pos}
end
end L2
namespace My
open PySem PySem.Spec PyProof.Rows L2
section
variable {K : PySem.W.Frag} {ex : List Addr} {H : Hp}
end
end My

namespace My
open PySem PySem.Spec PyProof.Rows L2
open PySem.StrLaws PySem.Builtin.Str
end My

namespace L2
open PySem PySem.Spec PyProof.Rows PySem.SeqAt
end L2
namespace My
open PySem PySem.Spec PyProof.Rows L2
end My

namespace PySem
open Sem (wp)
section
variable {prog : Program} {w : World} {A : Around} {E : Value → Shared → Prop} {h : Heap} {g : Array GenState} {d : Drawn} {t : Nat} {os : OsState}
variable {nm q : Str} {C N : Addr} {bs bm bmB : List Value} {hdct : Bool} {sn : List Str} {sub : List Value} {ab : Bool} {col : Option Bool} {dd : Option Addr} {k0 k1 k2 k3 k5 : Option Value} {B newId initId : String}
end
end PySem

namespace L2
open PySem PySem.Spec PyProof.Rows
section
variable {prog : Program} {w : World} {A : Around} {E : Value → Shared → Prop} {s : Shared} {l : Addr} {xs : Array (Int × Tok)}
end
section
variable {X : Cx}
end
end L2
namespace My
open PySem PySem.Spec PyProof.Rows L2
end My

namespace My
open PySem PySem.Spec PyProof.Rows L2
section
variable {R : Int} {ws : List Way} {ks : List Int} {x : Int} {l : List Int} {i j : Nat}
end
end My

namespace L2
open PySem PySem.Spec PyProof.Rows PySem.SeqAt
section
variable {X : Cx} {pins : List (Addr × Obj)} {σ : St} {A : Around} {R : Result → Shared → Prop} {it l d : Addr} {ps : List (Key × V × Addr)}
end
end L2

namespace L2
open PySem PySem.Spec PyProof.Rows PySem.SeqAt
section
variable {prog : Program} {w : World} {A : Around} {E : Value → Shared → Prop} {s : Shared}
end
section
variable {X : Cx}
end
end L2

namespace My
open PySem PySem.Spec PyProof.Rows L2 PySem.SeqAt PySem.MeetsSeq
section
variable {X : Cx}
end
end My

namespace My
open PySem PySem.Spec PyProof.Rows L2
section
variable {R U : Int} {ws : List Way} {ks : List Int}
end
end My

namespace My
open PySem PySem.Spec PyProof.Rows L2
end My

namespace L2
open PySem PySem.Spec PyProof.Rows
section
variable {P : Program} {w : World} {K : PySem.W.Frag} {mg : Str → Option Value} {base : Heap} {C : Addr} {x m qual : Str} {st : Stmt} {ps : List Str} {k : Nat} {sp : Sp}
end
section
variable {X : Cx} {x m : Str} {C : Addr} {o e : Expr} {es : List Expr} {p pos apos : Pos} {ta : TE} {t : TA} {k : Nat} {ps : List Str} {sp : Sp}
end
end L2
namespace My
open PySem PySem.Spec PyProof.Rows L2
section
variable {b : Bool} {te ta : TE} {g : GE}
end
end My

namespace My
open PySem PySem.Spec PyProof.Rows L2
noncomputable abbrev St' := Int × List Int
noncomputable abbrev Kn := List (Int × St')
end My

namespace L2
open PySem PySem.Spec PyProof.Rows My
section
variable {X : Cx} {x : Str} {e : Expr} {es : List Expr} {p pos : Pos} {t : TA} {k : Nat} {ps : List Str} {sp : Sp} {i : Int} {E : XK}
end
end L2
namespace My
open PySem PySem.Spec PyProof.Rows L2
section
variable {i : Nat} {sp : GSx} {t : TA} {gt : GA} {tv : TE} {gv : GE} {d : Int} {b : Bool} {E' : XK}
end
section
variable {K : PySem.W.Frag} {C : Addr} {s0 : St'} {p : Kn} {Q : PyData → Prop}
end
end My

namespace My
open PySem PySem.Spec PyProof.Rows L2
end My
namespace My
open PySem PySem.Spec PyProof.Rows L2
end My

namespace My
open PySem PySem.Spec PyProof.Rows L2
section
variable {x t : Int} {xr gr : List Int} {N : Nat}
end
end My
namespace My
open PySem PySem.Spec PyProof.Rows L2
end My
namespace My
open PySem PySem.Spec PyProof.Rows L2
end My

set_option synthInstance.maxSize 100000
set_option synthInstance.maxHeartbeats 4000000
namespace My
open PySem PySem.Spec PyProof.Rows L2
variable {z : Er}
section
variable {P : Program} {w : World} {K : PySem.W.Frag} {mg : Str → Option Value} {base : Heap}
end
end My
open PySem PySem.W PyProof.Rows