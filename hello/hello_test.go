package hello

import (
	"bytes"
	"reflect"
	"strings"
	"testing"

	"remuda/api"
)

// most is the highest number of 4 bytes.
const most = 1<<32 - 1

const version = "\x00\x03\x00\x00"
const ssl = "\x04\xd2\x16\x2f"
const cancel = "\x04\xd2\x16\x2e"

// same holds a against b; a list that is nil is as one that is empty.
func same(a, b api.Hello) bool {
	if len(a.Params) == 0 && len(b.Params) == 0 {
		a.Params, b.Params = nil, nil
	}
	return reflect.DeepEqual(a, b)
}

// told are messages that may be told, each with its body.
func told() []struct {
	h api.Hello
	b string
} {
	return []struct {
		h api.Hello
		b string
	}{
		{api.Hello{Code: api.Version}, version + "\x00"},
		{api.Hello{Code: api.Version, Params: []api.Pair{}}, version + "\x00"},
		{api.Hello{Code: api.Version, Params: []api.Pair{{Name: "user", Value: "a"}}}, version + "user\x00a\x00\x00"},
		{api.Hello{Code: api.Version, Params: []api.Pair{{Name: "user", Value: ""}}}, version + "user\x00\x00\x00"},
		{api.Hello{Code: api.Version, Params: []api.Pair{{Name: "a", Value: ""}, {Name: "b", Value: ""}}}, version + "a\x00\x00b\x00\x00\x00"},
		{api.Hello{Code: api.Version, Params: []api.Pair{{Name: "user", Value: "b"}, {Name: "user", Value: "c"}, {Name: "\xff", Value: "\x01\xfe"}}}, version + "user\x00b\x00user\x00c\x00\xff\x00\x01\xfe\x00\x00"},
		{api.Hello{Code: api.CodeSSL}, ssl},
		{api.Hello{Code: api.CodeCancel}, cancel + "\x00\x00\x00\x00\x00\x00\x00\x00"},
		{api.Hello{Code: api.CodeCancel, Process: 1, Secret: 258}, cancel + "\x00\x00\x00\x01\x00\x00\x01\x02"},
		{api.Hello{Code: api.CodeCancel, Process: most, Secret: 1 << 31}, cancel + "\xff\xff\xff\xff\x80\x00\x00\x00"},
	}
}

// P5.1: Build answers the body, Parse reads it. P5.3: Parse of Build is the message.
func TestTold(t *testing.T) {
	for _, c := range told() {
		b, e := Build(c.h)
		if e != api.OK || string(b) != c.b {
			t.Fatalf("Build(%+v) is %q, %d, not %q", c.h, b, e, c.b)
		}
		h, e := Parse(b)
		if e != api.OK || !same(h, c.h) {
			t.Fatalf("Parse(%q) is %+v, %d, not %+v", b, h, e, c.h)
		}
	}
}

// P5.3: however many pairs there are.
func TestManyPairs(t *testing.T) {
	h := api.Hello{Code: api.Version}
	for n := range 3000 {
		name := strings.Repeat("n", 1+n%7)
		h.Params = append(h.Params, api.Pair{Name: name, Value: strings.Repeat("v", n%11)})
	}
	b, e := Build(h)
	if e != api.OK {
		t.Fatal(e)
	}
	if g, e := Parse(b); e != api.OK || !same(g, h) {
		t.Fatalf("%d pairs, %d", len(g.Params), e)
	}
}

// P5.1: Parse refuses other bodies: too short ones first, then codes that are not served, then what does not end as it should.
func TestParseWrong(t *testing.T) {
	for _, c := range []struct {
		b    string
		want api.Errno
	}{
		{"", api.ErrForm},
		{"\x00", api.ErrForm},
		{"\x00\x03\x00", api.ErrForm},
		{"\xff\xff\xff", api.ErrForm},
		{"\x00\x00\x00\x00", api.ErrKind},
		{"\x00\x02\x00\x00user\x00a\x00\x00", api.ErrKind},
		{"\x00\x03\x00\x01user\x00a\x00\x00", api.ErrKind},
		{"\x00\x03\x00\x02\x00", api.ErrKind},
		{"\x04\xd2\x16\x30", api.ErrKind},
		{"\x04\xd2\x16\x2d\x00\x00\x00\x00\x00\x00\x00\x00", api.ErrKind},
		{"\xff\xff\xff\xff", api.ErrKind},
		{version, api.ErrForm},
		{version + "\x00\x00", api.ErrForm},
		{version + "\x00user\x00a\x00\x00", api.ErrForm},
		{version + "user", api.ErrForm},
		{version + "user\x00", api.ErrForm},
		{version + "user\x00a", api.ErrForm},
		{version + "user\x00a\x00", api.ErrForm},
		{version + "user\x00\x00", api.ErrForm},
		{version + "user\x00a\x00b\x00\x00", api.ErrForm},
		{version + "user\x00a\x00\x00\x00", api.ErrForm},
		{version + "user\x00a\x00\x00b", api.ErrForm},
		{ssl + "\x00", api.ErrForm},
		{ssl + "\x00\x00\x00\x01\x00\x00\x01\x02", api.ErrForm},
		{cancel, api.ErrForm},
		{cancel + "\x00\x00\x00\x01", api.ErrForm},
		{cancel + "\x00\x00\x00\x01\x00\x00\x01", api.ErrForm},
		{cancel + "\x00\x00\x00\x01\x00\x00\x01\x02\x00", api.ErrForm},
	} {
		if h, e := Parse([]byte(c.b)); e != c.want || !same(h, api.Hello{}) {
			t.Fatalf("Parse(%q) is %+v, %d, not %d", c.b, h, e, c.want)
		}
	}
}

// P5.1: a body that ends too early is none.
func TestParseBeginnings(t *testing.T) {
	for _, c := range told() {
		for n := range len(c.b) {
			if h, e := Parse([]byte(c.b[:n])); e != api.ErrForm || !same(h, api.Hello{}) {
				t.Fatalf("Parse(%q) is %+v, %d", c.b[:n], h, e)
			}
		}
	}
}

// P5.1: Build refuses codes that are not served, and what may not be told.
func TestBuildWrong(t *testing.T) {
	one := []api.Pair{{Name: "user", Value: "a"}}
	for _, h := range []api.Hello{
		{},
		{Code: 1},
		{Code: api.Version + 1},
		{Code: api.CodeCancel - 1},
		{Code: api.CodeSSL + 1},
		{Code: -api.Version},
		{Code: api.Version + 1<<32},
		{Code: api.Version, Process: 1},
		{Code: api.Version, Secret: 1},
		{Code: api.Version, Process: -1},
		{Code: api.Version, Params: []api.Pair{{}}},
		{Code: api.Version, Params: []api.Pair{{Name: "", Value: "a"}}},
		{Code: api.Version, Params: []api.Pair{{Name: "user", Value: "a"}, {Name: "", Value: ""}}},
		{Code: api.Version, Params: []api.Pair{{Name: "us\x00er", Value: "a"}}},
		{Code: api.Version, Params: []api.Pair{{Name: "user", Value: "a\x00"}}},
		{Code: api.Version, Params: []api.Pair{{Name: "user", Value: "a"}, {Name: "b", Value: "\x00"}}},
		{Code: api.CodeSSL, Params: one},
		{Code: api.CodeSSL, Process: 1},
		{Code: api.CodeSSL, Secret: 1},
		{Code: api.CodeCancel, Params: one},
		{Code: api.CodeCancel, Process: -1},
		{Code: api.CodeCancel, Secret: -1},
		{Code: api.CodeCancel, Process: most + 1},
		{Code: api.CodeCancel, Secret: most + 1},
	} {
		if b, e := Build(h); e != api.ErrArg || len(b) != 0 {
			t.Fatalf("Build(%+v) is %q, %d", h, b, e)
		}
	}
}

// P5.2: User is the value of the first pair with that name, or empty.
func TestUser(t *testing.T) {
	for _, c := range []struct {
		list []api.Pair
		want string
	}{
		{nil, ""},
		{[]api.Pair{}, ""},
		{[]api.Pair{{Name: "user", Value: "a"}}, "a"},
		{[]api.Pair{{Name: "user", Value: ""}}, ""},
		{[]api.Pair{{Name: "user", Value: ""}, {Name: "user", Value: "b"}}, ""},
		{[]api.Pair{{Name: "database", Value: "user"}, {Name: "user", Value: "b"}, {Name: "user", Value: "c"}}, "b"},
		{[]api.Pair{{Name: "User", Value: "a"}, {Name: "users", Value: "b"}, {Name: "use", Value: "c"}, {Name: "", Value: "d"}}, ""},
	} {
		if u := User(api.Hello{Code: api.Version, Params: c.list}); u != c.want {
			t.Fatalf("User(%v) is %q, not %q", c.list, u, c.want)
		}
	}
}

// P5.2: whatever else the message says.
func TestUserOfAnyCode(t *testing.T) {
	if u := User(api.Hello{Params: []api.Pair{{Name: "user", Value: "a\x00"}}}); u != "a\x00" {
		t.Fatalf("User is %q", u)
	}
}

// P5.1: what is handed in is not kept or changed, nor what is answered shared.
func TestShared(t *testing.T) {
	in := make([]byte, 0, 64)
	in = append(in, version+"user\x00a\x00\x00"...)
	whole := bytes.Clone(in[:cap(in)])
	h, e := Parse(in)
	if e != api.OK || !bytes.Equal(in[:cap(in)], whole) {
		t.Fatalf("%q, %d", in[:cap(in)], e)
	}
	clear(in)
	if User(h) != "a" {
		t.Fatalf("%+v", h)
	}
	list := append(make([]api.Pair, 0, 4), h.Params...)
	first, _ := Build(api.Hello{Code: api.Version, Params: list})
	clear(first)
	second, e := Build(api.Hello{Code: api.Version, Params: list})
	if e != api.OK || string(second) != version+"user\x00a\x00\x00" || list[:2][1] != (api.Pair{}) {
		t.Fatalf("%q, %d, %v", second, e, list[:2])
	}
}
