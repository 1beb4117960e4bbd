package policy_test

import (
	"encoding/binary"
	"fmt"
	"math"
	"math/rand"
	"reflect"
	"regexp"
	"slices"
	"strings"
	"unsafe"

	"gatepost/api"
)

// The words of the texts in policies, for the library's expressions; \z, as $ would let a line's end follow.
var (
	labelForm = regexp.MustCompile(`\A[a-z0-9]([a-z0-9-]{0,18}[a-z0-9])?\z`)
	headForm  = regexp.MustCompile("\\A[a-z0-9!#$%&'*+.^_`|~-]{1,64}\\z")
	termForm  = regexp.MustCompile(`\A[\x21-\x29\x2b\x2d-\x7e]{1,64}\z`)
)

// text64 is a term's Text of the most bytes; label20 a label, head64 a header's name of the most.
const (
	text64  = "0123456789abcdefghijklmnopqrstuvwxyzABCDEFGHIJKLMNOPQRSTUVWXYZ/-"
	label20 = "abcdefghij-012345678"
	head64  = "abcdefghijklmnopqrstuvwxyz0123456789!#$%&'*+-.^_`|~--------x-abc"
)

// text tells a value whole; nil and empty lists are one.
func text(x any) string { return fmt.Sprintf("%q %+v", x, x) }

// all tells whether each of the row is so.
func all[T any](l []T, is func(T) bool) bool {
	for _, x := range l {
		if !is(x) {
			return false
		}
	}
	return true
}

// isTerms tells by the words whether the row of terms may be.
func isTerms(l []api.Term) bool {
	return len(l) <= 6 && all(l, func(t api.Term) bool {
		return t.Kind == api.TermPresent && t.Text == "" || t.Kind >= 1 && t.Kind <= 3 && termForm.MatchString(t.Text)
	})
}

// isNet tells by the words whether the net may be.
func isNet(c api.Cidr) bool {
	return c.Bits >= 0 && c.Bits <= 32 && uint64(c.Addr)<<c.Bits&math.MaxUint32 == 0
}

// isSource tells by the words whether the source may be.
func isSource(s api.Source) bool {
	return isTerms(s.Names) && isTerms(s.Spaces) && len(s.Nets) <= 6 && all(s.Nets, isNet)
}

// isTarget tells by the words whether the target may be.
func isTarget(t api.Target) bool {
	times := map[int]int{}
	for _, x := range t.Ports {
		times[x]++
	}
	return len(t.Ports) <= 6 && all(t.Ports, func(x int) bool { return x >= 1 && x <= 65535 && times[x] == 1 }) &&
		isTerms(t.Methods) && isTerms(t.Paths) && isTerms(t.Hosts)
}

// isWhen tells by the words whether the condition may be.
func isWhen(w api.When) bool {
	return headForm.MatchString(w.Head) && isTerms(w.Terms) && len(w.Terms) >= 1
}

// isRule tells by the words whether the rule may be.
func isRule(r api.Rule) bool {
	return len(r.From) <= 3 && len(r.To) <= 3 && len(r.When) <= 3 && all(r.From, isSource) && all(r.To, isTarget) && all(r.When, isWhen)
}

// isPolicy tells by the words whether the policy may be.
func isPolicy(p api.Policy) bool {
	return p.Id >= 1 && p.Id <= 1<<62-1 && (p.Ns == "" || labelForm.MatchString(p.Ns)) && p.Service <= 1<<62-1 &&
		(p.Deny == 0 || p.Deny == 1) && len(p.Rules) <= 6 && all(p.Rules, isRule)
}

// said puts what is said of a policy behind b, in the order of the words: a short number, a text, a row's size and each of the row.
type said struct{ b []byte }

func (s *said) number(x uint64) { s.b = binary.AppendUvarint(s.b, x) }
func (s *said) string(x string) { s.number(uint64(len(x))); s.b = append(s.b, x...) }
func (s *said) terms(l []api.Term) {
	s.number(uint64(len(l)))
	for _, t := range l {
		s.b = append(s.b, byte(t.Kind))
		s.string(t.Text)
	}
}

func (s *said) rule(r api.Rule) {
	s.number(uint64(len(r.From)))
	for _, x := range r.From {
		s.terms(x.Names)
		s.terms(x.Spaces)
		s.number(uint64(len(x.Nets)))
		for _, c := range x.Nets {
			s.b = append(binary.LittleEndian.AppendUint32(s.b, c.Addr), byte(c.Bits))
		}
	}
	s.number(uint64(len(r.To)))
	for _, x := range r.To {
		s.number(uint64(len(x.Ports)))
		for _, n := range x.Ports {
			s.number(uint64(n))
		}
		s.terms(x.Methods)
		s.terms(x.Paths)
		s.terms(x.Hosts)
	}
	s.number(uint64(len(r.When)))
	for _, x := range r.When {
		s.string(x.Head)
		s.terms(x.Terms)
	}
}

// bytesOf answers by the words the policy's bytes, those too that one would have that may not be.
func bytesOf(p api.Policy) []byte {
	s := &said{}
	s.number(p.Id)
	s.string(p.Ns)
	s.number(p.Service)
	s.number(uint64(p.Deny))
	s.number(uint64(len(p.Rules)))
	for _, r := range p.Rules {
		s.rule(r)
	}
	return s.b
}

// exact answers terms that ask for just these texts.
func exact(l ...string) []api.Term {
	var out []api.Term
	for _, s := range l {
		out = append(out, api.Term{Kind: api.TermExact, Text: s})
	}
	return out
}

// mostTerms are as many terms as a row may have.
func mostTerms() []api.Term {
	return []api.Term{{Kind: api.TermExact, Text: text64}, {Kind: api.TermPrefix, Text: "/a"}, {Kind: api.TermSuffix, Text: ".js"}, {Kind: api.TermPresent}, {Kind: api.TermExact, Text: "!"}, {Kind: api.TermPrefix, Text: "~"}}
}

// mostOf answers a rule that has of everything as much as it may.
func mostOf() api.Rule {
	nets := []api.Cidr{{}, {Addr: 0x0a000000, Bits: 8}, {Addr: 0xffffffff, Bits: 32}, {Addr: 0x80000000, Bits: 1}, {Bits: 32}, {Addr: 0x0a000000, Bits: 8}}
	s := api.Source{Names: mostTerms(), Spaces: mostTerms(), Nets: nets}
	t := api.Target{Ports: []int{1, 127, 128, 16384, 65535, 80}, Methods: mostTerms(), Paths: mostTerms(), Hosts: mostTerms()}
	w := api.When{Head: head64, Terms: mostTerms()}
	return api.Rule{From: []api.Source{s, s, s}, To: []api.Target{t, t, t}, When: []api.When{w, w, w}}
}

// mixed is a policy that has of everything something, and no two of it alike.
func mixed() api.Policy {
	return api.Policy{Id: 300, Ns: "shop", Service: 7, Deny: 1, Rules: []api.Rule{
		{
			From: []api.Source{{Names: []api.Term{{Kind: api.TermSuffix, Text: "/sa/web"}, {Kind: api.TermPresent}}, Spaces: exact("a", "b"), Nets: []api.Cidr{{Addr: 0x0a000000, Bits: 8}, {Addr: 0x0b000001, Bits: 32}}}, {Names: exact("x")}},
			To:   []api.Target{{Ports: []int{80, 8080}, Methods: exact("GET", "PUT"), Paths: []api.Term{{Kind: api.TermPrefix, Text: "/a"}}, Hosts: exact("h")}, {Ports: []int{9}}},
			When: []api.When{{Head: "x-a", Terms: exact("1", "2")}, {Head: "x-b", Terms: []api.Term{{Kind: api.TermPresent}}}},
		},
		{},
		{To: []api.Target{{Hosts: exact("other")}}},
	}}
}

// goodRules are rules that may be: with and without each part, and as great as may be.
func goodRules() []api.Rule {
	return append([]api.Rule{
		{}, mostOf(),
		{From: make([]api.Source, 3)}, {To: make([]api.Target, 3)}, {From: []api.Source{}, To: []api.Target{}, When: []api.When{}},
		{From: []api.Source{{Names: exact("a")}}}, {From: []api.Source{{Spaces: exact("a")}}}, {From: []api.Source{{Nets: []api.Cidr{{}}}}},
		{From: []api.Source{{Nets: []api.Cidr{{Addr: 1, Bits: 32}, {Addr: 1, Bits: 32}}}}},
		{To: []api.Target{{Ports: []int{80}}}}, {To: []api.Target{{Ports: []int{1, 2, 3, 4, 5, 65535}}}}, {To: []api.Target{{Ports: []int{80}}, {Ports: []int{80}}}},
		{To: []api.Target{{Methods: exact("GET", "GET")}}}, {To: []api.Target{{Paths: exact("/")}}}, {To: []api.Target{{Hosts: exact("a")}}}, {To: []api.Target{{}, {}, {Hosts: mostTerms()}}},
		{When: []api.When{{Head: "x", Terms: exact("a")}}}, {When: []api.When{{Head: "x", Terms: exact("a")}, {Head: "x", Terms: exact("a")}, {Head: head64, Terms: mostTerms()}}},
	}, mixed().Rules...)
}

// goodPolicies are policies that may be.
func goodPolicies() []api.Policy {
	l := []api.Policy{
		{Id: 1}, {Id: 1<<62 - 1}, {Id: 127}, {Id: 128}, {Id: 1 << 32}, {Id: 1, Ns: "a"}, {Id: 1, Ns: label20}, {Id: 1, Ns: "0-0"}, {Id: 1, Service: 1}, {Id: 1, Service: 1<<62 - 1}, {Id: 1, Deny: 1}, {Id: 1, Rules: []api.Rule{}},
		{Id: 2, Rules: make([]api.Rule, 6)}, {Id: 1<<62 - 1, Ns: label20, Service: 1<<62 - 1, Deny: 1, Rules: slices.Repeat([]api.Rule{mostOf()}, 6)}, mixed(),
	}
	for i, r := range goodRules() {
		l = append(l, api.Policy{Id: uint64(i + 1), Deny: i % 2, Rules: []api.Rule{r}}, api.Policy{Id: 9, Rules: []api.Rule{{}, r, mostOf()}})
	}
	return l
}

// badTerms are terms that may not be; all but the last ones can be told in bytes.
func badTerms() []api.Term {
	l := []api.Term{{}, {Text: "a"}, {Kind: 5}, {Kind: 5, Text: "a"}, {Kind: 255, Text: "a"}, {Kind: api.TermPresent, Text: "a"}, {Kind: api.TermPresent, Text: "*"}}
	for _, s := range []string{"", "*", "a*", "*a", "a,b", "a b", " ", "a\n", "\x00", "\x7f", "\xff", "\u00e9", text64 + "a", strings.Repeat("a", 200)} {
		l = append(l, api.Term{Kind: api.TermExact, Text: s}, api.Term{Kind: api.TermPrefix, Text: s}, api.Term{Kind: api.TermSuffix, Text: s})
	}
	return append(l, api.Term{Kind: -1, Text: "a"}, api.Term{Kind: 257, Text: "a"}, api.Term{Kind: 1 << 32, Text: "a"}, api.Term{Kind: math.MinInt, Text: "a"}, api.Term{Kind: math.MaxInt, Text: "a"})
}

// badTermRows are rows of terms that may not be.
func badTermRows() [][]api.Term {
	l := [][]api.Term{append(mostTerms(), exact("a")...), slices.Repeat(exact("a"), 13), slices.Repeat(exact("a"), 256), slices.Repeat(exact("a"), 1<<16)}
	for _, t := range badTerms() {
		l = append(l, []api.Term{t}, append(exact("a"), t), append(mostTerms()[:5], t))
	}
	return l
}

// badNets are nets that may not be.
func badNets() []api.Cidr {
	return []api.Cidr{{Bits: 33}, {Bits: 34}, {Bits: 64}, {Bits: 255}, {Addr: 1}, {Addr: 1, Bits: 31}, {Addr: 0x80000000}, {Addr: 0x0a000001, Bits: 8}, {Addr: 0x0a000000, Bits: 6}, {Bits: -1}, {Bits: 256}, {Bits: math.MinInt}, {Bits: math.MaxInt}}
}

// badPorts are rows of ports that may not be.
func badPorts() [][]int {
	return [][]int{{0}, {-1}, {65536}, {65537}, {1 << 16}, {80 + 1<<16}, {80 + 1<<32}, {80 - 1<<32}, {math.MaxInt32}, {math.MaxInt}, {math.MinInt}, {math.MinInt + 80}, {80, 80}, {80, 81, 80}, {1, 2, 3, 4, 5, 5}, {1, 2, 3, 4, 5, 1}, {80, 0}, {1, 2, 3, 4, 5, 0}, {1, 2, 3, 4, 5, 6, 7}, make([]int, 1000)}
}

// badHeads are names that no header has.
func badHeads() []string {
	return []string{"", "A", "x-A", "a b", " a", "a ", "a:", "a\n", "\x00", "\x7f", "\xff", "\u00e9", "(", ")", "/", "@", "[", "{", "\"", ",", ";", "=", "?", head64 + "a", strings.Repeat("a", 200)}
}

// badRules are rules that may not be, for one reason each.
func badRules() []api.Rule {
	good := api.When{Head: "x", Terms: exact("a")}
	l := []api.Rule{
		{From: make([]api.Source, 4)}, {To: make([]api.Target, 4)}, {When: slices.Repeat([]api.When{good}, 4)}, {From: make([]api.Source, 1000)}, {To: make([]api.Target, 1000)}, {When: slices.Repeat([]api.When{good}, 1000)},
		{From: []api.Source{{Nets: make([]api.Cidr, 7)}}}, {When: []api.When{{}}}, {When: []api.When{{Head: "x"}}}, {When: []api.When{{Head: "x", Terms: []api.Term{}}}}, {When: []api.When{good, good, {Head: "x"}}}, {When: []api.When{{Terms: exact("a")}}},
	}
	for _, x := range badTermRows() {
		l = append(l,
			api.Rule{From: []api.Source{{Names: x}}}, api.Rule{From: []api.Source{{}, {Spaces: x}}},
			api.Rule{To: []api.Target{{Methods: x}}}, api.Rule{To: []api.Target{{}, {Paths: x}}}, api.Rule{To: []api.Target{{}, {}, {Hosts: x}}},
			api.Rule{When: []api.When{{Head: "x", Terms: x}}}, api.Rule{When: []api.When{good, {Head: "x", Terms: x}}})
	}
	for _, x := range badNets() {
		l = append(l, api.Rule{From: []api.Source{{Nets: []api.Cidr{x}}}}, api.Rule{From: []api.Source{{}, {}, {Nets: []api.Cidr{{}, x}}}})
	}
	for _, x := range badPorts() {
		l = append(l, api.Rule{To: []api.Target{{Ports: x}}}, api.Rule{To: []api.Target{{}, {}, {Ports: x}}})
	}
	for _, x := range badHeads() {
		l = append(l, api.Rule{When: []api.When{{Head: x, Terms: exact("a")}}}, api.Rule{When: []api.When{good, {Head: x, Terms: exact("a")}}})
	}
	return l
}

// badPolicies are policies that may not be, for one reason each.
func badPolicies() []api.Policy {
	l := []api.Policy{
		{}, {Ns: "a", Deny: 1}, {Id: 1 << 62}, {Id: 1<<62 + 1}, {Id: 1 << 63}, {Id: math.MaxUint64}, {Id: 1, Service: 1 << 62}, {Id: 1, Service: 1 << 63}, {Id: 1, Service: math.MaxUint64},
		{Id: 1, Deny: 2}, {Id: 1, Deny: 3}, {Id: 1, Deny: -1}, {Id: 1, Deny: 256}, {Id: 1, Deny: 1 << 32}, {Id: 1, Deny: 1<<32 + 1}, {Id: 1, Deny: math.MaxInt}, {Id: 1, Deny: math.MinInt}, {Id: 1, Deny: math.MinInt + 1},
		{Id: 1, Rules: make([]api.Rule, 7)}, {Id: 1, Rules: make([]api.Rule, 1000)}, {Id: 1, Rules: slices.Repeat([]api.Rule{mostOf()}, 7)},
	}
	for _, s := range []string{"-", "-a", "a-", "A", "a.b", "a b", " ", "a\n", "\x00", "\xff", "\u00e9", "a_b", label20 + "9", strings.Repeat("a", 200)} {
		l = append(l, api.Policy{Id: 1, Ns: s})
	}
	for _, r := range badRules() {
		l = append(l, api.Policy{Id: 1, Rules: []api.Rule{r}}, api.Policy{Id: 1, Rules: []api.Rule{{}, mostOf(), {}, {}, {}, r}})
	}
	return l
}

// hasBytes tells whether bytesOf tells all of the policy: a kind, and a net's bits, have one byte.
func hasBytes(p api.Policy) bool {
	isByte := true
	visit(reflect.ValueOf(&p).Elem(), func(v reflect.Value) {
		switch x := v.Interface().(type) {
		case api.Term:
			isByte = isByte && x.Kind == int(byte(x.Kind))
		case api.Cidr:
			isByte = isByte && x.Bits == int(byte(x.Bits))
		}
	})
	return isByte
}

// visit calls do for x and for all that is in it.
func visit(x reflect.Value, do func(reflect.Value)) {
	do(x)
	switch x.Kind() {
	case reflect.Struct:
		for i := range x.NumField() {
			visit(x.Field(i), do)
		}
	case reflect.Slice:
		for i := range x.Len() {
			visit(x.Index(i), do)
		}
	}
}

// apart answers a policy like p that shares no list with it, whatever Own does.
func apart(p api.Policy) api.Policy {
	visit(reflect.ValueOf(&p).Elem(), func(v reflect.Value) {
		if v.Kind() == reflect.Slice && v.Len() > 0 {
			v.Set(reflect.AppendSlice(reflect.MakeSlice(v.Type(), 0, v.Len()), v))
		}
	})
	return p
}

// lentText answers s in memory that can be scrubbed.
func lentText(s string) (string, []byte) {
	b := []byte(s)
	return unsafe.String(unsafe.SliceData(b), len(b)), b
}

// unlike answers policies each of which is other than p in one thing, wherever it is: a number, a text, a row without its last one, without its first one, with one more, with none, or with two turned round.
func unlike(p api.Policy) []api.Policy {
	var out []api.Policy
	places, before := 0, text(p)
	visit(reflect.ValueOf(&p).Elem(), func(reflect.Value) { places++ })
	for place := range places {
		for way := range 5 {
			q, at, done := apart(p), 0, false
			visit(reflect.ValueOf(&q).Elem(), func(v reflect.Value) {
				if at == place {
					done = change(v, way)
				}
				at++
			})
			if done && text(q) != before {
				out = append(out, q)
			}
		}
	}
	return out
}

// change makes v another one, in one of some ways, if it can be made so.
func change(v reflect.Value, way int) bool {
	switch v.Kind() {
	case reflect.Int:
		v.SetInt([]int64{v.Int() + 1, v.Int() - 1, v.Int() ^ 1<<62, v.Int() + 256, v.Int() + 1<<32}[way])
	case reflect.Uint32, reflect.Uint64:
		v.SetUint([]uint64{v.Uint() + 1, v.Uint() - 1, v.Uint() ^ 1<<31, v.Uint() + 256, v.Uint() ^ 1<<16}[way])
	case reflect.String:
		s := v.String()
		v.SetString([]string{s + "a", "a" + s, strings.ToUpper(s), s[:len(s)/2], s + "\x00"}[way])
	case reflect.Slice:
		changeRow(v, way)
	default:
		return false
	}
	return true
}

// changeRow makes the row another one, in one of some ways.
func changeRow(v reflect.Value, way int) {
	n := v.Len()
	switch {
	case way == 0:
		v.Set(reflect.Append(v, reflect.Zero(v.Type().Elem())))
	case n == 0:
	case way == 1:
		v.Set(v.Slice(0, n-1))
	case way == 2:
		v.Set(v.Slice(1, n))
	case way == 3:
		v.Set(reflect.Append(v, v.Index(n-1)))
	case n > 1:
		reflect.Swapper(v.Interface())(0, n-1)
	}
}

// pick answers one of the texts; r says which.
func pick(r *rand.Rand, l ...string) string { return l[r.Intn(len(l))] }

// some answers a row of from least to most; r says how many.
func some[T any](r *rand.Rand, least, most int, one func(*rand.Rand) T) []T {
	var l []T
	for range least + r.Intn(most-least+1) {
		l = append(l, one(r))
	}
	return l
}

// someTerm answers a term that may be; r says which.
func someTerm(r *rand.Rand) api.Term {
	k := 1 + r.Intn(4)
	if k == api.TermPresent {
		return api.Term{Kind: k}
	}
	return api.Term{Kind: k, Text: pick(r, "a", "b", "GET", "/a/", ".js", "\x21\x7e", text64, text64[:1+r.Intn(64)])}
}

// someNet answers a net that may be; r says which.
func someNet(r *rand.Rand) api.Cidr {
	bits := r.Intn(33)
	return api.Cidr{Addr: uint32(uint64(r.Uint32()) >> (32 - bits) << (32 - bits)), Bits: bits}
}

// someRule answers a rule that may be; r says which.
func someRule(r *rand.Rand) api.Rule {
	terms := func(r *rand.Rand) []api.Term { return some(r, 0, r.Intn(7), someTerm) }
	return api.Rule{
		From: some(r, 0, 3, func(r *rand.Rand) api.Source {
			return api.Source{Names: terms(r), Spaces: terms(r), Nets: some(r, 0, 6, someNet)}
		}),
		To: some(r, 0, 3, func(r *rand.Rand) api.Target {
			ports := []int{1 + r.Intn(2), 79 + r.Intn(3), 127 + r.Intn(2), 16383 + r.Intn(2), 20000 + r.Intn(1000), 65534 + r.Intn(2)}
			r.Shuffle(6, func(i, j int) { ports[i], ports[j] = ports[j], ports[i] })
			return api.Target{Ports: ports[:r.Intn(7)], Methods: terms(r), Paths: terms(r), Hosts: terms(r)}
		}),
		When: some(r, 0, 3, func(r *rand.Rand) api.When {
			return api.When{Head: pick(r, "x", "x-a", "`~", head64), Terms: some(r, 1, 6, someTerm)}
		}),
	}
}

// somePolicy answers a policy that may be; r says which.
func somePolicy(r *rand.Rand) api.Policy {
	return api.Policy{Id: max(1, r.Uint64()>>(2+r.Intn(62))), Ns: pick(r, "", "a", "shop", label20), Service: r.Uint64() >> (2 + r.Intn(63)), Deny: r.Intn(2), Rules: some(r, 0, r.Intn(7), someRule)}
}
