package sess

import (
	"remuda/api"
	"remuda/cols"
	"remuda/sql"
	"remuda/tx"
)

// execute runs a portal, if it has not run yet, and answers its first most rows, or what came of it.
func (s *Session) execute(name string, most int) ([]api.Back, error) {
	p, err := s.portal(name)
	if err != nil {
		return nil, err
	}
	v := sql.Parse(p.Stmt.Text)
	if p.Ran && !again(v) {
		return nil, trouble{codeRan, saysRan}
	}
	if !p.Ran {
		s.portals.Ran(name, s.engine.Rows(v, p.Params))
	}
	if !sql.Rows(v) {
		return s.act(v)
	}
	rows, more := s.portals.Fetch(name, most)
	return told(rows, more), nil
}

// query does a text at once: no name is left of it, and no fault lasts.
func (s *Session) query(text string) []api.Back {
	delete(s.statements, "")
	s.portals.Delete("")
	said, err := s.once(text)
	said = append(said, s.blame(err)...)
	return append(said, s.ready())
}

// once runs a text, and answers its columns with all of its rows, or what came of it.
func (s *Session) once(text string) ([]api.Back, error) {
	if err := s.verdict(text); err != nil {
		return nil, err
	}
	v := sql.Parse(text)
	if !sql.Rows(v) {
		return s.act(v)
	}
	return append([]api.Back{described(api.Stmt{Text: text})}, told(s.engine.Rows(v, nil), false)...), nil
}

// act does what a verb without rows does, and answers what came of it.
func (s *Session) act(v api.Verb) ([]api.Back, error) {
	switch v.Kind {
	case api.VerbEmpty:
		return []api.Back{{Kind: 'I'}}, nil
	case api.VerbFail:
		return nil, trouble{v.Code, saysFail}
	}
	status, tag := tx.Next(s.status, v)
	s.status = status
	if sql.Exit(v) {
		s.portals.Clear()
	}
	return []api.Back{{Kind: 'C', Tag: tag}}, nil
}

// again tells whether v may be run by one portal more than once.
func again(v api.Verb) bool {
	return sql.Rows(v) || v.Kind == api.VerbEmpty
}

// described answers what the rows of a statement are like.
func described(st api.Stmt) api.Back {
	v := sql.Parse(st.Text)
	if !sql.Rows(v) {
		return api.Back{Kind: 'n'}
	}
	return cols.Describe(sql.Columns(v, len(st.OIDs)))
}

// told answers rows, and that more are left, or how many these were.
func told(rows [][]api.Cell, more bool) []api.Back {
	var said []api.Back
	for _, row := range rows {
		said = append(said, cols.Row(row))
	}
	if more {
		return append(said, api.Back{Kind: 's'})
	}
	return append(said, api.Back{Kind: 'C', Tag: cols.Tag(len(rows))})
}
