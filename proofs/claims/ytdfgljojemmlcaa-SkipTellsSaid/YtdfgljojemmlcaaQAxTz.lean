/- What reads as data of the types of package api is laid out as their structures are. Written by gen/ax_types.py. -/
import Derived.Test.YtdfgljojemmlcaaQAxX
import Derived.Test.YtdfgljojemmlcaaRows
/- The types of package api as Lean structures, and how they are laid out. No program is named here. Written by gen/ax_types.py. -/
namespace Go.Proofs.Ytdfgljojemmlcaa.Ax
open Go.RowKit Go By
set_option linter.unusedSimpArgs false
set_option linter.unusedVariables false

abbrev Cl := Bool × List UInt8
/-- api.Msg -/
structure Ms where
  type : Int
  body : List UInt8
  deriving DecidableEq
/-- api.Pair -/
structure Pa where
  name : List UInt8
  value : List UInt8
  deriving DecidableEq
/-- api.Col -/
structure Co where
  name : List UInt8
  table : Int
  attr : Int
  oid : Int
  size : Int
  mod : Int
  format : Int
  deriving DecidableEq
/-- api.Field -/
structure Fi where
  code : Int
  text : List UInt8
  deriving DecidableEq
/-- api.Stmt -/
structure Sm where
  text : List UInt8
  oids : List Int
  deriving DecidableEq
/-- api.Hello -/
structure Hm where
  code : Int
  process : Int
  secret : Int
  params : List Pa
  deriving DecidableEq
/-- api.Front -/
structure Fm where
  kind : Int
  what : Int
  name : List UInt8
  portal : List UInt8
  text : List UInt8
  oids : List Int
  formats : List Int
  results : List Int
  params : List Cl
  max : Int
  deriving DecidableEq
/-- api.Back -/
structure Bk where
  kind : Int
  status : Int
  tag : List UInt8
  name : List UInt8
  value : List UInt8
  n : Int
  m : Int
  oids : List Int
  cols : List Co
  row : List Cl
  fields : List Fi
  deriving DecidableEq
/-- api.TableOp -/
structure To where
  set : Bool
  name : List UInt8
  id : Int
  deriving DecidableEq
/-- api.CacheOp -/
structure Oc where
  kind : Int
  id : Int
  deriving DecidableEq
/-- api.Entry -/
structure En where
  kind : Int
  hide : Bool
  from_ : List UInt8
  to : List UInt8
  good : List To
  bad : List To
  cache : List Oc
  reply : List UInt8
  deriving DecidableEq
/-- api.Verb -/
structure Vb where
  kind : Int
  n : Int
  code : List UInt8
  deriving DecidableEq
/-- api.Config -/
structure Cf where
  servers : Int
  cache : Int
  table : Int
  message : Int
  buffer : Int
  queue : Int
  params : List Pa
  deriving DecidableEq
/-- api.Event -/
structure Ev where
  kind : Int
  who : Int
  n : Int
  bytes : List UInt8
  deriving DecidableEq
/-- api.Sent -/
structure Se where
  client : Int
  index : Int
  bytes : List UInt8
  deriving DecidableEq
/-- api.Call -/
structure Ca where
  client : Int
  index : Int
  deriving DecidableEq
/-- api.Named -/
structure Na where
  name : List UInt8
  id : Int
  deriving DecidableEq
/-- api.Counted -/
structure Cn where
  id : Int
  refs : Int
  deriving DecidableEq
/-- api.ClientView -/
structure Cv where
  phase : Int
  server : Int
  done : Int
  table : List Na
  deriving DecidableEq
/-- api.ServerView -/
structure Sv where
  state : Int
  holder : Int
  queue : Int
  status : Int
  cache : List Int
  pending : List Int
  deriving DecidableEq
/-- api.View -/
structure Vw where
  clients : List Cv
  servers : List Sv
  registry : List Cn
  waiting : List Int
  deriving DecidableEq
end Go.Proofs.Ytdfgljojemmlcaa.Ax
namespace Go.Proofs.Ytdfgljojemmlcaa.Ax
open Go.RowKit Go By
set_option linter.unusedSimpArgs false
set_option linter.unusedVariables false

theorem sh_bool : Shape Try.prog 4 (fun b : Bool => [.v (.bool b)]) (fun _ => True) := shape_bool Try.underlying4
end Go.Proofs.Ytdfgljojemmlcaa.Ax
