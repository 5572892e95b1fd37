package sess

import (
	"slices"
	"strings"

	"remuda/api"
	"remuda/engine"
	"remuda/portal"
	"remuda/sql"
	"remuda/tell"
)

// What a C or a D is of.
const (
	whatStmt   = 'S'
	whatPortal = 'P'
)

// step does f, one of those whose faults last up to the next S; of others there is nothing to do.
func (s *Session) step(f api.Front) ([]api.Back, error) {
	switch f.Kind {
	case kindParse:
		return s.parse(f)
	case kindBind:
		return s.bind(f)
	case kindDescribe:
		return s.describe(f)
	case kindExecute:
		return s.execute(f.Portal, f.Max)
	case kindClose:
		return s.close(f), nil
	}
	return nil, nil
}

// parse has a statement be there.
func (s *Session) parse(f api.Front) ([]api.Back, error) {
	if f.Name == "" {
		delete(s.statements, "")
	}
	if err := s.verdict(f.Text); err != nil {
		return nil, err
	}
	// That of "" is gone by now: only a name is found here.
	if _, ok := s.statements[f.Name]; ok {
		return nil, trouble{codeExists, tell.Exists(f.Name)}
	}
	// The name and the text may be pieces of a longer text, all of which would stay with them.
	s.statements[strings.Clone(f.Name)] = api.Stmt{Text: strings.Clone(f.Text), OIDs: slices.Clone(f.OIDs)}
	return []api.Back{{Kind: '1'}}, nil
}

// bind has a portal be there.
func (s *Session) bind(f api.Front) ([]api.Back, error) {
	st, err := s.statement(f.Name)
	switch {
	case err != nil:
		return nil, err
	case len(f.Params) != len(st.OIDs):
		return nil, trouble{codeArity, tell.Arity(len(f.Params), f.Name, len(st.OIDs))}
	case s.portals.Put(f.Portal, portal.Portal{Stmt: st, Params: f.Params}) != api.OK:
		return nil, trouble{codeCursor, tell.Cursor(f.Portal)}
	}
	return []api.Back{{Kind: '2'}}, nil
}

// describe answers what a statement takes, and what it, or a portal, tells.
func (s *Session) describe(f api.Front) ([]api.Back, error) {
	switch f.What {
	case whatStmt:
		st, err := s.statement(f.Name)
		if err != nil {
			return nil, err
		}
		return []api.Back{{Kind: 't', OIDs: slices.Clone(st.OIDs)}, described(st)}, nil
	case whatPortal:
		p, err := s.portal(f.Portal)
		if err != nil {
			return nil, err
		}
		return []api.Back{described(p.Stmt)}, nil
	}
	return nil, nil
}

// close has a statement, or a portal, be gone, whether there was one or not.
func (s *Session) close(f api.Front) []api.Back {
	switch f.What {
	case whatStmt:
		delete(s.statements, f.Name)
	case whatPortal:
		s.portals.Delete(f.Portal)
	default:
		return nil
	}
	return []api.Back{{Kind: '3'}}
}

// verdict answers why the engine refuses text, if it does.
func (s *Session) verdict(text string) error {
	if code, says, refused := s.engine.Verdict(text, s.status); refused {
		return trouble{code, says}
	}
	return nil
}

// statement answers the statement of that name, unless it may not be used.
func (s *Session) statement(name string) (api.Stmt, error) {
	st, ok := s.statements[name]
	if !ok {
		return api.Stmt{}, trouble{codeMissing, tell.Missing(name)}
	}
	return st, s.allows(st)
}

// portal answers the portal of that name, unless it may not be used.
func (s *Session) portal(name string) (portal.Portal, error) {
	p, ok := s.portals.Get(name)
	if !ok {
		return portal.Portal{}, trouble{codePortal, tell.Portal(name)}
	}
	return p, s.allows(p.Stmt)
}

// allows answers why st may not be used, if the transaction has failed, and st does not end it.
func (s *Session) allows(st api.Stmt) error {
	if s.status == statusFailed && !sql.Exit(sql.Parse(st.Text)) {
		return trouble{codeAborted, engine.Aborted()}
	}
	return nil
}
