package drain

import (
	"math"
	"testing"

	"remuda/api"
	"remuda/frame"
	"remuda/front"
	"remuda/skip"
)

// all are all that a Skip may be.
func all() []skip.Skip {
	var list []skip.Skip
	for i := range 8 {
		list = append(list, skip.Skip{On: i&1 > 0, Wait: i&2 > 0, Dirty: i&4 > 0})
	}
	return list
}

// lefts are numbers of replies that may be to come.
var lefts = []int{math.MinInt, -1, 0, 1, 2, 100, math.MaxInt}

// The plans are four, counted from 0.
func TestPlans(t *testing.T) {
	if Idle != 0 || Wait != 1 || Sync != 2 || Rollback != 3 {
		t.Fatal(Idle, Wait, Sync, Rollback)
	}
}

// P34.1: what is done, by the first that holds.
func TestPlan(t *testing.T) {
	for _, c := range []struct {
		status byte
		left   int
		s      skip.Skip
		want   int
	}{
		{'I', 0, skip.Skip{}, Idle}, {'T', 0, skip.Skip{}, Rollback}, {'E', 0, skip.Skip{}, Rollback},
		{0, 0, skip.Skip{}, Rollback}, {'i', 0, skip.Skip{}, Rollback}, {255, 0, skip.Skip{}, Rollback},
		{'I', 1, skip.Skip{}, Wait}, {'T', 1, skip.Skip{}, Wait}, {'E', 7, skip.Skip{}, Wait}, {0, math.MaxInt, skip.Skip{}, Wait},
		{'I', 0, skip.Skip{On: true}, Sync}, {'T', 0, skip.Skip{On: true}, Sync}, {'I', 3, skip.Skip{On: true}, Sync},
		{'I', 0, skip.Skip{Dirty: true}, Sync}, {'E', 0, skip.Skip{Dirty: true}, Sync}, {'T', 3, skip.Skip{Dirty: true}, Sync},
		{'I', 0, skip.Skip{On: true, Dirty: true}, Sync},
		{'I', 0, skip.Skip{Wait: true}, Wait}, {'T', 0, skip.Skip{Wait: true}, Wait}, {'E', 2, skip.Skip{Wait: true}, Wait},
		{'I', 0, skip.Skip{Wait: true, On: true}, Wait}, {'I', 0, skip.Skip{Wait: true, Dirty: true}, Wait},
		{'T', 1, skip.Skip{Wait: true, On: true, Dirty: true}, Wait},
		{'I', -1, skip.Skip{}, Idle}, {'T', -1, skip.Skip{}, Rollback},
	} {
		if got := Plan(c.status, c.left, c.s); got != c.want {
			t.Errorf("Plan(%d, %d, %+v) is %d, not %d", c.status, c.left, c.s, got, c.want)
		}
	}
}

// P34.1, P34.2: whatever there is; nothing is idle but with status 73 and nothing left.
func TestPlanAll(t *testing.T) {
	for _, s := range all() {
		for n := range 256 {
			for _, left := range lefts {
				want := Rollback
				if n == 73 {
					want = Idle
				}
				if left > 0 {
					want = Wait
				}
				if s.On || s.Dirty {
					want = Sync
				}
				if s.Wait {
					want = Wait
				}
				got := Plan(byte(n), left, s)
				if got != want {
					t.Errorf("Plan(%d, %d, %+v) is %d, not %d", n, left, s, got, want)
				}
				if got == Idle && (n != 73 || left > 0 || s != (skip.Skip{})) {
					t.Errorf("Plan(%d, %d, %+v) is Idle", n, left, s)
				}
			}
		}
	}
}

// P34.1: a plan that tells the server something tells it a message as a client would.
func TestBytes(t *testing.T) {
	for _, c := range []struct {
		plan int
		m    api.Front
		want string
	}{
		{Sync, api.Front{Kind: 'S'}, "S\x00\x00\x00\x04"},
		{Rollback, api.Front{Kind: 'Q', Text: "rollback"}, "Q\x00\x00\x00\x0drollback\x00"},
	} {
		got := Bytes(c.plan)
		if string(got) != c.want {
			t.Errorf("Bytes(%d) is %v, not %v", c.plan, got, []byte(c.want))
		}
		m, e := front.Encode(c.m)
		if b := frame.Bytes(m); e != api.OK || string(got) != string(b) {
			t.Errorf("Bytes(%d) is %v, not %v, %d", c.plan, got, b, e)
		}
	}
}

// P34.1: other plans, and what is none, tell nothing.
func TestBytesNothing(t *testing.T) {
	for _, plan := range []int{Idle, Wait, math.MinInt, -1, 4, 5, 'S', 'Q', math.MaxInt} {
		if got := Bytes(plan); len(got) > 0 {
			t.Errorf("Bytes(%d) is %v", plan, got)
		}
	}
}

// P34.1: who gets the bytes may change them.
func TestBytesApart(t *testing.T) {
	for _, plan := range []int{Sync, Rollback} {
		want := string(Bytes(plan))
		b := Bytes(plan)
		for i := range b {
			b[i] = 'x'
		}
		if got := Bytes(plan); string(got) != want {
			t.Errorf("Bytes(%d) is %v behind a change, not %v", plan, got, []byte(want))
		}
	}
}
