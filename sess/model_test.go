package sess

import (
	"math/rand"
	"slices"
	"strconv"
	"strings"
	"testing"

	"remuda/api"
	"remuda/engine"
	"remuda/sql"
	"remuda/tell"
)

// opened is a portal of the model: its statement, and, once it has run, what it has left to tell.
type opened struct {
	text   string
	types  int
	params []api.Cell
	ran    bool
	left   []string
}

// model is a session, as the chapter's words have it, written out plainly, with what its engine refuses and was asked.
type model struct {
	status      byte
	skips, over bool
	statements  map[string]api.Stmt
	portals     map[string]*opened
	refused     map[string]bool
	asked       int
}

func newModel() *model {
	return &model{status: 'I', statements: map[string]api.Stmt{}, portals: map[string]*opened{}, refused: map[string]bool{}}
}

// fault is what a fault says, and what it does.
func (m *model) fault(code, text string, skips bool) []string {
	if m.status == 'T' {
		m.status = 'E'
	}
	if m.status == 'E' {
		m.portals = map[string]*opened{}
	}
	m.skips = m.skips || skips
	return []string{"E " + code + " " + text}
}

// refuses answers the code and the text by which the engine refuses a text.
func (m *model) refuses(text string) (string, string) {
	v := sql.Parse(text)
	exit := v.Kind == api.VerbCommit || v.Kind == api.VerbRollback
	switch {
	case v.Kind == api.VerbBad:
		return "42601", "syntax error"
	case m.status == 'E' && !exit:
		return "25P02", engine.Aborted()
	case m.refused[text] && !exit && v.Kind != api.VerbEmpty:
		return "42P01", "relation does not exist"
	}
	return "", ""
}

// shut tells whether a statement may not be used since the transaction has failed.
func (m *model) shut(text string) bool {
	v := sql.Parse(text)
	return m.status == 'E' && v.Kind != api.VerbCommit && v.Kind != api.VerbRollback
}

// do answers what a session says of a message.
func (m *model) do(f api.Front) []string {
	if m.over || m.skips && f.Kind != 'S' && f.Kind != 'X' {
		return nil
	}
	switch f.Kind {
	case 'P':
		return m.parse(f)
	case 'B':
		return m.bind(f)
	case 'D':
		return m.describe(f)
	case 'E':
		return m.execute(f)
	case 'C':
		if f.What == 'S' {
			delete(m.statements, f.Name)
		} else {
			delete(m.portals, f.Portal)
		}
		return []string{"3"}
	case 'S':
		m.skips = false
		return m.ready()
	case 'Q':
		return m.query(f.Text)
	case 'X':
		m.over = true
	}
	return nil
}

func (m *model) ready() []string {
	if m.status == 'I' {
		m.portals = map[string]*opened{}
	}
	return []string{"Z " + string([]byte{m.status})}
}

func (m *model) parse(f api.Front) []string {
	if f.Name == "" {
		delete(m.statements, "")
	}
	if code, text := m.refuses(f.Text); code != "" {
		return m.fault(code, text, true)
	}
	if _, there := m.statements[f.Name]; there {
		return m.fault("42P05", tell.Exists(f.Name), true)
	}
	m.statements[f.Name] = api.Stmt{Text: f.Text, OIDs: f.OIDs}
	return []string{"1"}
}

func (m *model) bind(f api.Front) []string {
	st, there := m.statements[f.Name]
	_, twice := m.portals[f.Portal]
	switch {
	case !there:
		return m.fault("26000", tell.Missing(f.Name), true)
	case m.shut(st.Text):
		return m.fault("25P02", engine.Aborted(), true)
	case len(f.Params) != len(st.OIDs):
		return m.fault("08P01", tell.Arity(len(f.Params), f.Name, len(st.OIDs)), true)
	case f.Portal != "" && twice:
		return m.fault("42P03", tell.Cursor(f.Portal), true)
	}
	m.portals[f.Portal] = &opened{text: st.Text, types: len(st.OIDs), params: f.Params}
	return []string{"2"}
}

// columns is what describes the rows of a text with so many parameters.
func columns(text string, types int) string {
	switch sql.Parse(text).Kind {
	case api.VerbEcho:
		return "T " + strconv.Itoa(types)
	case api.VerbSelect, api.VerbNext:
		return "T 1"
	}
	return "n"
}

func (m *model) describe(f api.Front) []string {
	if f.What == 'S' {
		st, there := m.statements[f.Name]
		switch {
		case !there:
			return m.fault("26000", tell.Missing(f.Name), true)
		case m.shut(st.Text):
			return m.fault("25P02", engine.Aborted(), true)
		}
		var types []string
		for _, oid := range st.OIDs {
			types = append(types, strconv.Itoa(oid))
		}
		return []string{"t " + strings.Join(types, ","), columns(st.Text, len(st.OIDs))}
	}
	p, there := m.portals[f.Portal]
	switch {
	case !there:
		return m.fault("34000", tell.Portal(f.Portal), true)
	case m.shut(p.text):
		return m.fault("25P02", engine.Aborted(), true)
	}
	return []string{columns(p.text, p.types)}
}

// rows are what a text has to tell.
func (m *model) rows(v api.Verb, params []api.Cell) []string {
	var l []string
	switch v.Kind {
	case api.VerbSelect:
		for n := range v.N {
			l = append(l, "D "+strconv.Itoa(n+1))
		}
	case api.VerbEcho:
		l = []string{"D " + cells(params)}
	case api.VerbNext:
		m.asked++
		l = []string{"D " + strconv.Itoa(m.asked)}
	}
	return l
}

// plain does what has no rows.
func (m *model) plain(v api.Verb, skips bool) []string {
	was := m.status
	switch v.Kind {
	case api.VerbEmpty:
		return []string{"I"}
	case api.VerbFail:
		return m.fault(v.Code, "failed on purpose", skips)
	case api.VerbBegin:
		if m.status == 'I' {
			m.status = 'T'
		}
		return []string{"C BEGIN"}
	}
	m.status, m.portals = 'I', map[string]*opened{}
	if v.Kind == api.VerbCommit && was != 'E' {
		return []string{"C COMMIT"}
	}
	return []string{"C ROLLBACK"}
}

func (m *model) execute(f api.Front) []string {
	p, there := m.portals[f.Portal]
	switch {
	case !there:
		return m.fault("34000", tell.Portal(f.Portal), true)
	case m.shut(p.text):
		return m.fault("25P02", engine.Aborted(), true)
	}
	v, ran := sql.Parse(p.text), p.ran
	p.ran = true
	switch v.Kind {
	case api.VerbSelect, api.VerbEcho, api.VerbNext:
		if !ran {
			p.left = m.rows(v, p.params)
		}
		n := len(p.left)
		if f.Max > 0 && f.Max < n {
			n = f.Max
		}
		said := slices.Clone(p.left[:n])
		p.left = p.left[n:]
		if len(p.left) > 0 {
			return append(said, "s")
		}
		return append(said, "C SELECT "+strconv.Itoa(n))
	case api.VerbEmpty:
		return []string{"I"}
	}
	if ran {
		return m.fault("55000", "portal cannot be run", true)
	}
	return m.plain(v, true)
}

func (m *model) query(text string) []string {
	delete(m.statements, "")
	delete(m.portals, "")
	var said []string
	v := sql.Parse(text)
	code, why := m.refuses(text)
	switch {
	case code != "":
		said = m.fault(code, why, false)
	case v.Kind == api.VerbSelect || v.Kind == api.VerbEcho || v.Kind == api.VerbNext:
		rows := m.rows(v, nil)
		said = append([]string{columns(text, 0)}, rows...)
		said = append(said, "C SELECT "+strconv.Itoa(len(rows)))
	default:
		said = m.plain(v, false)
	}
	return append(said, m.ready()...)
}

func (m *model) names() []string {
	var l []string
	for name := range m.statements {
		l = append(l, name)
	}
	slices.Sort(l)
	return l
}

// pick answers one of a list, by chance.
func pick[T any](r *rand.Rand, l ...T) T {
	return l[r.Intn(len(l))]
}

// anyText answers a text, some of which may not be.
func anyText(r *rand.Rand) string {
	return pick(r, "select 3", "select 0", "select 7", "echo", "echo", "next", "next", "begin", "begin", "begin", "commit", "rollback", "fail 22012", "", " ", "nonsense", "select 100")
}

// random answers a message by chance; names are few, so that they meet, and most of what is bound fits.
func (m *model) random(r *rand.Rand) api.Front {
	name, portal := pick(r, "", "a", "b", "c"), pick(r, "", "x", "y")
	if m.skips && r.Intn(3) == 0 {
		return sync
	}
	switch r.Intn(24) {
	case 0, 1, 2, 3:
		return parse(name, anyText(r), []int{23, 25}[:pick(r, 0, 0, 0, 1, 2)]...)
	case 4, 5, 6, 7, 8:
		types := len(m.statements[name].OIDs)
		if r.Intn(8) == 0 {
			types = r.Intn(3)
		}
		return api.Front{Kind: 'B', Portal: portal, Name: name, Params: []api.Cell{{Bytes: []byte("1")}, {Null: true}}[:types]}
	case 9, 10:
		return ofStmt('D', name)
	case 11:
		return ofPortal('D', portal)
	case 12, 13, 14, 15, 16:
		return execute(portal, pick(r, -1, 0, 0, 1, 2, 3, 4))
	case 17:
		return ofStmt('C', name)
	case 18:
		return ofPortal('C', portal)
	case 19:
		return sync
	case 20, 21:
		return query(anyText(r))
	case 22:
		return parse(name, pick(r, "begin", "select 3", "echo"))
	}
	return api.Front{Kind: pick[byte](r, 'H', 'F', 'p', 0, 'Z'), Name: name, Text: "begin"}
}

// P30.1, P30.2, P30.3: whatever comes, a session says just what the model does, and stands as that.
func TestModel(t *testing.T) {
	faults := map[string]int{}
	for seed := range 400 {
		r := rand.New(rand.NewSource(int64(seed)))
		e := engine.New()
		s, m := New(e), newModel()
		for step := range 250 {
			if r.Intn(40) == 0 {
				text := anyText(r)
				m.refused[text] = !m.refused[text]
				e.Turn(text)
			}
			f := m.random(r)
			if r.Intn(2000) == 0 {
				f = end
			}
			was := m.skips
			want := m.do(f)
			do(t, s, f, want...)
			if s.Status() != m.status || s.Skips() != m.skips || s.Over() != m.over || !slices.Equal(s.Names(), m.names()) || e.Count() != m.asked {
				t.Fatalf("seed %d, step %d: behind %v the session has %d, %v, %v, %q, %d", seed, step, f, s.Status(), s.Skips(), s.Over(), s.Names(), e.Count())
			}
			if m.skips && !was {
				faults[string([]byte{f.Kind})+want[0][2:7]]++
			}
		}
	}
	// Each fault that the chapter names must have come by chance, too.
	for _, kind := range []string{
		"P42601", "P25P02", "P42P01", "P42P05", "B26000", "B25P02", "B08P01", "B42P03",
		"D26000", "D25P02", "D34000", "E34000", "E22012", "E55000",
	} {
		if faults[kind] == 0 {
			t.Errorf("no fault %s came", kind)
		}
	}
}
