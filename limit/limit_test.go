package limit

import (
	"math"
	"reflect"
	"strings"
	"testing"

	"remuda/api"
)

// with answers Base with these params.
func with(params ...api.Pair) api.Config {
	c := Base()
	c.Params = params
	return c
}

// many answers n params that may be.
func many(n int) []api.Pair {
	l := make([]api.Pair, n)
	for i := range l {
		l[i] = api.Pair{Name: "name", Value: "value"}
	}
	return l
}

// checks fails, unless Check of c is OK just if it may be; twice, since nothing is changed.
func checks(t *testing.T, c api.Config, may bool) {
	t.Helper()
	want := api.ErrArg
	if may {
		want = api.OK
	}
	for range 2 {
		if got := Check(c); got != want {
			t.Errorf("Check(%.200v) is %d, not %d", c, got, want)
		}
	}
}

// P35.1: each number goes from its least to its most, whatever the others are.
func TestNumbers(t *testing.T) {
	least := api.Config{Servers: 1, Cache: 1, Table: 1, Message: 64, Buffer: 65, Queue: 6}
	most := api.Config{Servers: 8, Cache: 64, Table: 64, Message: 65536, Buffer: 131072, Queue: 256, Params: many(16)}
	for _, c := range []api.Config{least, most, Base()} {
		checks(t, c, true)
	}
	for _, c := range []struct {
		set         func(c *api.Config, n int)
		least, most int
	}{
		{func(c *api.Config, n int) { c.Servers = n }, 1, 8},
		{func(c *api.Config, n int) { c.Cache = n }, 1, 64},
		{func(c *api.Config, n int) { c.Table = n }, 1, 64},
		{func(c *api.Config, n int) { c.Queue = n }, 6, 256},
		{func(c *api.Config, n int) { c.Message, c.Buffer = n, 131072 }, 64, 65536},
		{func(c *api.Config, n int) { c.Message, c.Buffer = 64, n }, 65, 131072},
	} {
		for _, from := range []api.Config{least, most, Base()} {
			for _, n := range []int{
				math.MinInt, math.MinInt + 1, math.MinInt32, -1, 0, 1, 2, 5, 6, 7, 8, 9, 63, 64, 65, 66, 255, 256, 257,
				4096, 65535, 65536, 65537, 131071, 131072, 131073, math.MaxInt32, 1 << 32, 1<<32 + 65, math.MaxInt - 1, math.MaxInt,
			} {
				got := from
				c.set(&got, n)
				checks(t, got, c.least <= n && n <= c.most)
			}
		}
	}
}

// P35.1: Buffer is above Message; a Message that may not be goes with no Buffer.
func TestBuffer(t *testing.T) {
	for _, message := range []int{64, 65, 4096, 65535, 65536} {
		for _, c := range []struct {
			buffer int
			may    bool
		}{
			{0, false}, {message - 1, false}, {message, false}, {message + 1, true}, {message + 2, true},
			{131071, true}, {131072, true}, {131073, false}, {-message - 1, false},
		} {
			got := Base()
			got.Message, got.Buffer = message, c.buffer
			checks(t, got, c.may)
		}
	}
	for _, message := range []int{math.MaxInt, math.MaxInt - 1, math.MinInt, 131071, 0, -1} {
		for _, buffer := range []int{math.MinInt, 0, 1, 65, 131072, math.MaxInt} {
			got := Base()
			got.Message, got.Buffer = message, buffer
			checks(t, got, false)
		}
	}
}

// P35.1: there are at most 16 params; none is enough.
func TestParams(t *testing.T) {
	checks(t, with(), true)
	checks(t, with([]api.Pair{}...), true)
	for n := range 40 {
		checks(t, with(many(n)...), n <= 16)
	}
}

// P35.1: what a name and a value may be: each by its own, counted by bytes.
func TestTexts(t *testing.T) {
	hundred := strings.Repeat("x", 100)
	for _, c := range []struct {
		name, value string
		may         bool
	}{
		{"a", "b", true}, {"a", "", true}, {"", "b", false}, {"", "", false},
		{" ", " ", true}, {"a=b", "\n", true}, {"\x01\xff", "\xff\x01", true}, {"0", "0", true},
		{hundred, "", true}, {"a", hundred, true}, {hundred, hundred, true},
		{hundred[1:], hundred[1:], true},
		{hundred + "x", "", false}, {"a", hundred + "x", false}, {hundred + "x", hundred + "x", false},
		{strings.Repeat("ä", 50), strings.Repeat("ä", 50), true},
		{strings.Repeat("ä", 51), "", false}, {"a", strings.Repeat("ä", 51), false},
		{"\x00", "b", false}, {"a\x00", "b", false}, {"\x00a", "b", false}, {"a\x00a", "b", false},
		{"a", "\x00", false}, {"a", "b\x00", false}, {"a", "\x00b", false}, {"a", "b\x00b", false},
		{hundred[1:] + "\x00", "", false}, {"a", hundred[1:] + "\x00", false},
	} {
		p := api.Pair{Name: c.name, Value: c.value}
		checks(t, with(p), c.may)
		for at := range 16 {
			l := many(16)
			l[at] = p
			checks(t, with(l...), c.may)
		}
	}
}

// P35.1: two params may have the same name.
func TestAlike(t *testing.T) {
	checks(t, with(api.Pair{Name: "a", Value: "1"}, api.Pair{Name: "a", Value: "2"}), true)
}

// P35.1: of several things that may not be it is ErrArg, too; so it is of settings that say nothing.
func TestSeveral(t *testing.T) {
	checks(t, api.Config{}, false)
	checks(t, api.Config{Servers: -1, Queue: 999, Params: []api.Pair{{}}}, false)
	c := with(many(17)...)
	c.Queue = 5
	checks(t, c, false)
}

// P35.1: what is checked stays as it is, its spare room included.
func TestCheckChangesNothing(t *testing.T) {
	l := many(5)
	l[3].Name, l[4].Name = "", "spare"
	c := with(l[:3]...)
	checks(t, c, true)
	checks(t, with(l[:4]...), false)
	want := many(5)
	want[3].Name, want[4].Name = "", "spare"
	if !reflect.DeepEqual(l, want) || !reflect.DeepEqual(c, with(want[:3]...)) {
		t.Errorf("the params are %v, not %v", l, want)
	}
}

// base is what the chapter says of Base.
func base() api.Config {
	return api.Config{
		Servers: 2, Cache: 4, Table: 8, Message: 4096, Buffer: 8192, Queue: 32,
		Params: []api.Pair{{Name: "server_version", Value: "16"}},
	}
}

// P35.1: what Base answers; who gets it may change it.
func TestBase(t *testing.T) {
	c := Base()
	if !reflect.DeepEqual(c, base()) {
		t.Fatalf("Base is %v", c)
	}
	c.Servers = 9
	c.Params[0] = api.Pair{Value: "17"}
	_ = append(c.Params, api.Pair{Name: "b"})
	if got := Base(); !reflect.DeepEqual(got, base()) {
		t.Fatalf("Base is %v behind a change", got)
	}
}

// P35.2: Base may be, again and again, whatever is done with one.
func TestBaseMayBe(t *testing.T) {
	for range 3 {
		c := Base()
		checks(t, c, true)
		c.Params[0].Name = ""
		checks(t, c, false)
	}
}

// Example 1 of the chapter.
func TestExample(t *testing.T) {
	c := Base()
	c.Queue = 5
	checks(t, c, false)
}
