package skip

import (
	"math"
	"testing"

	"remuda/api"
)

// all are all that a Skip may be.
func all() []Skip {
	var list []Skip
	for i := range 8 {
		list = append(list, Skip{On: i&1 > 0, Wait: i&2 > 0, Dirty: i&4 > 0})
	}
	return list
}

// P23.1: an X passes always; what waits is held, an S too; what is on drops all but an S.
func TestVerdict(t *testing.T) {
	for _, c := range []struct {
		s    Skip
		kind byte
		want int
	}{
		{Skip{}, 'P', api.Pass}, {Skip{}, 'S', api.Pass}, {Skip{}, 'X', api.Pass}, {Skip{Dirty: true}, 'P', api.Pass},
		{Skip{On: true}, 'P', api.Drop}, {Skip{On: true}, 'Q', api.Drop}, {Skip{On: true}, 'H', api.Drop},
		{Skip{On: true}, 'S', api.Pass}, {Skip{On: true}, 'X', api.Pass},
		{Skip{Wait: true}, 'P', api.Hold}, {Skip{Wait: true}, 'Q', api.Hold}, {Skip{Wait: true}, 'H', api.Hold},
		{Skip{Wait: true}, 'S', api.Hold}, {Skip{Wait: true}, 'X', api.Pass},
		{Skip{On: true, Wait: true}, 'P', api.Hold}, {Skip{On: true, Wait: true}, 'S', api.Hold}, {Skip{On: true, Wait: true}, 'X', api.Pass},
		{Skip{On: true, Dirty: true}, 'p', api.Drop}, {Skip{On: true}, 0, api.Drop}, {Skip{Wait: true}, 255, api.Hold}, {Skip{}, 0, api.Pass},
	} {
		if got := Verdict(c.s, c.kind); got != c.want {
			t.Errorf("Verdict(%+v, %q) is %d, not %d", c.s, c.kind, got, c.want)
		}
	}
}

// P23.1: whatever there is, and whatever comes.
func TestVerdictAll(t *testing.T) {
	for _, s := range all() {
		for n := range 256 {
			kind := byte(n)
			want := api.Pass
			if s.On && kind != 'S' {
				want = api.Drop
			}
			if s.Wait {
				want = api.Hold
			}
			if kind == 'X' {
				want = api.Pass
			}
			if got := Verdict(s, kind); got != want {
				t.Errorf("Verdict(%+v, %q) is %d, not %d", s, kind, got, want)
			}
		}
	}
}

// P23.1: behind S and Q a Z must come; all but H and X are something; an S ends what counts for nothing.
func TestSent(t *testing.T) {
	for _, c := range []struct {
		s    Skip
		kind byte
		want Skip
	}{
		{Skip{}, 'P', Skip{Dirty: true}}, {Skip{}, 'E', Skip{Dirty: true}}, {Skip{}, 'p', Skip{Dirty: true}}, {Skip{}, 0, Skip{Dirty: true}},
		{Skip{}, 'S', Skip{Wait: true, Dirty: true}}, {Skip{}, 'Q', Skip{Wait: true, Dirty: true}},
		{Skip{}, 'H', Skip{}}, {Skip{}, 'X', Skip{}},
		{Skip{On: true}, 'S', Skip{Wait: true, Dirty: true}}, {Skip{On: true}, 'Q', Skip{On: true, Wait: true, Dirty: true}},
		{Skip{On: true}, 'P', Skip{On: true, Dirty: true}}, {Skip{On: true}, 'X', Skip{On: true}},
		{Skip{On: true, Wait: true, Dirty: true}, 'H', Skip{On: true, Wait: true, Dirty: true}},
	} {
		if got := Sent(c.s, c.kind); got != c.want {
			t.Errorf("Sent(%+v, %q) is %+v, not %+v", c.s, c.kind, got, c.want)
		}
	}
	for _, s := range all() {
		for n := range 256 {
			kind := byte(n)
			want := Skip{On: s.On && kind != 'S', Wait: s.Wait || kind == 'S' || kind == 'Q', Dirty: s.Dirty || kind != 'H' && kind != 'X'}
			if got := Sent(s, kind); got != want {
				t.Errorf("Sent(%+v, %q) is %+v, not %+v", s, kind, got, want)
			}
		}
	}
}

// P23.1: with entries left nothing is skipped; without any all is, and no Z is to come.
func TestFailed(t *testing.T) {
	for _, s := range all() {
		for _, left := range []int{1, 2, 256, math.MaxInt} {
			if got, want := Failed(s, left), (Skip{Wait: s.Wait, Dirty: s.Dirty}); got != want {
				t.Errorf("Failed(%+v, %d) is %+v, not %+v", s, left, got, want)
			}
		}
		for _, left := range []int{0, -1, math.MinInt} {
			if got, want := Failed(s, left), (Skip{On: true, Dirty: s.Dirty}); got != want {
				t.Errorf("Failed(%+v, %d) is %+v, not %+v", s, left, got, want)
			}
		}
	}
}

// P23.1: a Z came, so none must come, and nothing was sent behind it; what counts for nothing stays.
func TestReady(t *testing.T) {
	for _, s := range all() {
		if got, want := Ready(s), (Skip{On: s.On}); got != want {
			t.Errorf("Ready(%+v) is %+v, not %+v", s, got, want)
		}
	}
}

// P23.1: a message fails, so those behind it count for nothing, up to the S, which goes on.
func TestExample(t *testing.T) {
	s := Failed(Sent(Skip{}, 'P'), 0)
	for _, kind := range []byte("PBDECQH") {
		if got := Verdict(s, kind); got != api.Drop {
			t.Errorf("the verdict of %q is %d", kind, got)
		}
	}
	if got := Verdict(s, 'S'); got != api.Pass {
		t.Errorf("the verdict of S is %d", got)
	}
	if s = Sent(s, 'S'); Verdict(s, 'P') != api.Hold {
		t.Errorf("a P does not wait behind the S: %+v", s)
	}
	if s = Ready(s); s != (Skip{}) || Verdict(s, 'P') != api.Pass {
		t.Errorf("a P does not go on behind the Z: %+v", s)
	}
}

// P23.2: behind an S nothing passes but an X, whatever fails ahead of it or is said meanwhile, until a Z came.
func TestBehind(t *testing.T) {
	for _, s := range all() {
		s = Sent(s, 'S')
		for _, kind := range []byte("PBDECQHSX") {
			for _, meanwhile := range []Skip{s, Failed(s, 1), Sent(s, 'X'), Sent(s, 'H'), Sent(Failed(s, 3), 'P')} {
				want := api.Hold
				if kind == 'X' {
					want = api.Pass
				}
				if got := Verdict(meanwhile, kind); got != want {
					t.Errorf("Verdict(%+v, %q) is %d, not %d", meanwhile, kind, got, want)
				}
				if got := Verdict(Ready(meanwhile), kind); got != api.Pass {
					t.Errorf("Verdict(%+v, %q) is %d behind the Z", Ready(meanwhile), kind, got)
				}
			}
		}
	}
}
