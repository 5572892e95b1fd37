package tx

import (
	"math"
	"testing"

	"remuda/api"
)

// verbs are some of each kind that there is, and of kinds that there are not.
func verbs() []api.Verb {
	return []api.Verb{
		{Kind: api.VerbBad}, {Kind: api.VerbEmpty}, {Kind: api.VerbBegin}, {Kind: api.VerbCommit}, {Kind: api.VerbRollback},
		{Kind: api.VerbSelect}, {Kind: api.VerbSelect, N: 99}, {Kind: api.VerbEcho}, {Kind: api.VerbNext}, {Kind: api.VerbFail, Code: "22012"},
		{Kind: -1}, {Kind: api.VerbFail + 1}, {Kind: math.MinInt}, {Kind: math.MaxInt}, {Kind: 73}, {Kind: 84}, {Kind: 69},
	}
}

// next checks what Next tells.
func next(t *testing.T, status byte, v api.Verb, want byte, wantTag string) {
	t.Helper()
	if got, tag := Next(status, v); got != want || tag != wantTag {
		t.Errorf("Next(%d, %v) is %d, %q, not %d, %q", status, v, got, tag, want, wantTag)
	}
}

// P29.1: just three statuses are Right.
func TestRight(t *testing.T) {
	for n := range 256 {
		want := n == 73 || n == 84 || n == 69
		if got := Right(byte(n)); got != want {
			t.Errorf("Right(%d) is %v", n, got)
		}
	}
}

// P29.1: the status behind a fault: a transaction has failed then, and stays so; without one there is none.
func TestFail(t *testing.T) {
	for n := range 256 {
		want := byte(73)
		if n == 84 || n == 69 {
			want = 69
		}
		if got := Fail(byte(n)); got != want {
			t.Errorf("Fail(%d) is %d, not %d", n, got, want)
		}
	}
}

// P29.1: each status behind each verb, written out, with the chapter's example.
func TestNextWritten(t *testing.T) {
	for _, c := range []struct {
		status, want byte
		kind         int
		tag          string
	}{
		{'I', 'T', api.VerbBegin, "BEGIN"}, {'T', 'T', api.VerbBegin, "BEGIN"}, {'E', 'E', api.VerbBegin, "BEGIN"},
		{'I', 'I', api.VerbCommit, "COMMIT"}, {'T', 'I', api.VerbCommit, "COMMIT"}, {69, 73, api.VerbCommit, "ROLLBACK"},
		{'I', 'I', api.VerbRollback, "ROLLBACK"}, {'T', 'I', api.VerbRollback, "ROLLBACK"}, {'E', 'I', api.VerbRollback, "ROLLBACK"},
		{'I', 'I', api.VerbSelect, ""}, {'T', 'T', api.VerbSelect, ""}, {'E', 'E', api.VerbSelect, ""},
		{'I', 'I', api.VerbBad, ""}, {'T', 'T', api.VerbBad, ""}, {'E', 'E', api.VerbBad, ""},
		{'T', 'T', api.VerbEmpty, ""}, {'T', 'T', api.VerbEcho, ""}, {'T', 'T', api.VerbNext, ""}, {'T', 'T', api.VerbFail, ""},
		{0, 'T', api.VerbBegin, "BEGIN"}, {0, 'I', api.VerbCommit, "COMMIT"}, {0, 'I', api.VerbRollback, "ROLLBACK"}, {0, 'I', api.VerbSelect, ""},
		{'e', 'T', api.VerbBegin, "BEGIN"}, {'e', 'I', api.VerbCommit, "COMMIT"}, {'e', 'I', api.VerbRollback, "ROLLBACK"}, {'e', 'I', api.VerbFail, ""},
	} {
		next(t, c.status, api.Verb{Kind: c.kind}, c.want, c.tag)
	}
}

// P29.1: a status that is not Right is as 73; a verb of no known kind is as others.
func TestNextAll(t *testing.T) {
	for n := range 256 {
		status := byte(n)
		was := status
		if status != 'T' && status != 'E' {
			was = 'I'
		}
		for _, v := range verbs() {
			want, tag := was, ""
			switch {
			case v.Kind == api.VerbBegin && was == 'I':
				want, tag = 'T', "BEGIN"
			case v.Kind == api.VerbBegin:
				tag = "BEGIN"
			case v.Kind == api.VerbCommit && was == 'E', v.Kind == api.VerbRollback:
				want, tag = 'I', "ROLLBACK"
			case v.Kind == api.VerbCommit:
				want, tag = 'I', "COMMIT"
			}
			next(t, status, v, want, tag)
		}
	}
}

// P29.1: what else a verb has is of no account.
func TestNextFields(t *testing.T) {
	for _, v := range verbs() {
		for _, status := range []byte{'I', 'T', 'E', 'x'} {
			want, tag := Next(status, api.Verb{Kind: v.Kind})
			next(t, status, api.Verb{Kind: v.Kind, N: 7, Code: "25P02"}, want, tag)
			next(t, status, api.Verb{Kind: v.Kind, N: -1, Code: "commit"}, want, tag)
		}
	}
}

// P29.2: only a begin leads out of 73, and a commit or a rollback back to it from everywhere; whatever is done, and whatever fails, the status is Right.
func TestLeads(t *testing.T) {
	for n := range 256 {
		if !Right(Fail(byte(n))) {
			t.Errorf("Fail(%d) is not Right", n)
		}
		for _, v := range verbs() {
			got, _ := Next(byte(n), v)
			exit := v.Kind == api.VerbCommit || v.Kind == api.VerbRollback
			switch {
			case !Right(got):
				t.Errorf("Next(%d, %v) is %d", n, v, got)
			case exit && got != 73:
				t.Errorf("%v leads from %d to %d", v, n, got)
			case n == 73 && v.Kind != api.VerbBegin && got != 73:
				t.Errorf("%v leads out of 73 to %d", v, got)
			case n == 73 && v.Kind == api.VerbBegin && got == 73:
				t.Error("begin does not lead out of 73")
			case (n == 84 || n == 69) && !exit && got != byte(n):
				t.Errorf("%v leads from %d to %d", v, n, got)
			}
		}
	}
}
