package versions_test

import (
	"fmt"
	"slices"
	"testing"

	"versions/api"
	"versions/versions"
)

// session is an archive whose calls P12 counts, held against a model. None of them may answer ErrFull.
type session struct {
	t       testing.TB
	what    string
	device  *api.Device
	archive *versions.Archive
	model   *model
	account *account
}

func newSession(t testing.TB, what string, sectors int) *session {
	t.Helper()
	return sessionOver(t, what, api.NewDevice(sectors))
}

// sessionOver is one with what is on the device.
func sessionOver(t testing.TB, what string, d *api.Device) *session {
	t.Helper()
	sectors := d.Sectors()
	s := &session{t, fmt.Sprintf("%s, %d sectors", what, sectors), d, opened(t, d, plenty), copied(t, d)(), newAccount(sectors)}
	s.model.free()
	s.account.begin(s.model)
	return s
}

// do makes a call, if what is promised is enough for it. It tells whether it was.
func (s *session) do(o op) bool {
	s.t.Helper()
	if !s.account.take(o) {
		return false
	}
	expectAnswer(s.t, s.what, s.archive, s.model, o)
	return true
}

// again begins anew, by Collect, if what is promised is enough for that, or by Open.
func (s *session) again(collect bool) {
	s.t.Helper()
	if !collect || !s.do(op{call: "Collect"}) {
		s.archive = reopened(s.t, s.archive, s.device, plenty)
		s.model.free()
	}
	s.account.begin(s.model)
	expectSame(s.t, s.what, s.archive, s.model)
}

// fill puts contents until nothing is left of what is promised but for so much.
func (s *session) fill(content func(i, n int) []byte, longest, left int) {
	s.t.Helper()
	for i := 0; s.account.left-left >= 300; i++ {
		n := min(longest, s.account.left-left-300)
		if !s.do(op{call: "Put", path: longPath, content: content(i, n)}) {
			s.t.Fatalf("%s: no Put of %d bytes", s.what, n)
		}
		// Too little for a call more is left to the next content.
		if rest := s.account.left - left; rest > 0 && rest < 300 {
			longest = rest
		}
	}
}

// contents are of all kinds: chunks as small and as great as can be, contents of which most is the same, and nothing.
func contents() map[string]func(i, n int) []byte {
	return map[string]func(i, n int) []byte{
		"small chunks": func(i, n int) []byte { return smallChunks(uint32(i), n) },
		"noise":        func(i, n int) []byte { return noise(uint32(i), n) },
		"great chunks": func(i, n int) []byte { return greatChunks(i, n) },
		"the same":     func(i, n int) []byte { return slices.Concat(noise(99, n), []byte{byte(i)})[:n] },
		"other begins": func(i, n int) []byte { return slices.Concat([]byte{byte(i), byte(i >> 8)}, noise(99, n))[:n] },
	}
}

// greatChunks is a content whose chunks have 256 bytes each, but for some of them.
func greatChunks(i, n int) []byte {
	b := make([]byte, n)
	for k := range b {
		b[k] = byte(i + k/200)
	}
	return b
}

// P12: calls up to the bound itself, again and again, behind Open and behind Collect, on the least devices of which P12 promises something too.
func TestAtTheBound(t *testing.T) {
	for what, content := range contents() {
		for _, sectors := range []int{72, 73, 75, 82, 101, 200, 300, 1000} {
			for _, longest := range []int{4000, 700, 50, 1, 0} {
				s := newSession(t, fmt.Sprintf("%s of %d bytes", what, longest), sectors)
				for i := range 6 {
					collect := i%2 == 0
					left := 300
					if collect {
						left = 600
					}
					s.fill(content, longest, left)
					s.do(op{call: "Prune", path: longPath, number: i / 2 % 2})
					s.again(collect)
				}
				s.fill(content, longest, 0)
			}
		}
	}
}

// P12: calls that are refused count, and what they leave is enough for the others.
func TestAtTheBoundWithRefusedCalls(t *testing.T) {
	for _, sectors := range []int{100, 300} {
		s := newSession(t, "refused calls", sectors)
		for i := range 6 {
			for _, o := range []op{
				{call: "Put", path: "A", content: noise(1, 90)}, {call: "Delete", path: "none"}, {call: "Untag", name: "none"}, {call: "Sync"},
				{call: "Tag", name: "t", path: "none"}, {call: "Prune", path: ""},
			} {
				if s.account.left > 900+len(o.content) {
					s.do(o)
				}
			}
			s.fill(contents()["small chunks"], 300, 300)
			s.do(op{call: "Prune", path: longPath, number: 1})
			s.again(i%2 == 1)
		}
	}
}

// P12: nothing is promised on devices a quarter of which has less than 2000 bytes; but what is done there is right.
func TestBelowTheLeastBound(t *testing.T) {
	for _, sectors := range []int{16, 17, 31, 61, 62, 63, 71} {
		d := api.NewDevice(sectors)
		a, m := opened(t, d, plenty), newModel()
		full := 0
		for i := range 60 {
			for _, o := range []op{
				{call: "Put", path: "a", content: smallChunks(uint32(i), 100+i*7)}, {call: "Tag", name: fmt.Sprint("t", i), path: "a"}, {call: "Put", path: "b", content: noise(uint32(i), i*9)},
			} {
				after := m.clone()
				want, _ := after.do(o)
				n, err := o.on(a)
				switch {
				case api.Tell(err) == api.ErrFull && n == 0:
					full++
				case err == nil && n == want:
					m = after
				default:
					t.Fatalf("%d sectors: %v: %d, %v", sectors, o, n, err)
				}
				expectSame(t, fmt.Sprint(sectors, " sectors"), a, m)
			}
			if i%9 == 8 {
				a = reopened(t, a, d, plenty)
				m.free()
			}
		}
		if full == 0 {
			t.Errorf("a device of %d sectors is never full", sectors)
		}
	}
}

// tagName is a name of 20 letters.
func tagName(i int) string { return fmt.Sprintf("z/tag_%07d-abcdef", i) }

// P12: of tags that were there it counts none. Many are made, over many Collects and Opens, as many a time as are promised; beside them is room for all that is promised.
func TestAtTheBoundBesideTags(t *testing.T) {
	for _, sectors := range []int{92, 100, 300, 1000} {
		for _, collect := range []bool{false, true} {
			s := newSession(t, fmt.Sprintf("tags, Collect %v", collect), sectors)
			s.do(op{call: "Put", path: "held"})
			s.again(collect)
			for i := 0; i < 3*sectors; {
				for s.account.left >= 600 && i < 3*sectors {
					s.do(op{call: "Tag", name: tagName(i), path: "held"})
					i++
				}
				s.again(collect)
			}
			for i := range 3 {
				s.fill(contents()["small chunks"], 4000, 600)
				s.do(op{call: "Prune", path: longPath})
				s.again(collect)
				s.fill(contents()["noise"], 10*(1+i), 600)
				s.do(op{call: "Untag", name: tagName(i * 7)})
				s.again(collect)
				s.do(op{call: "Prune", path: longPath})
				s.again(collect)
			}
		}
	}
}

// P12: tags beyond what is promised leave room for it: behind Open and Collect all goes that is promised then, more tags among it.
func TestTagsLeaveRoom(t *testing.T) {
	for _, sectors := range []int{92, 100, 300, 1000} {
		for _, collect := range []bool{false, true} {
			s := newSession(t, "full of tags", sectors)
			s.do(op{call: "Put", path: "held"})
			if n := s.fillWithTags(); n < 4*sectors {
				t.Errorf("%s: just %d tags", s.what, n)
			}
			s.account.left = 300
			s.again(collect)
			for i := 0; s.account.left >= 300*4; i++ {
				s.do(op{call: "Tag", name: fmt.Sprint("more", i), path: "held"})
				s.do(op{call: "Untag", name: tagName(i)})
			}
			s.again(collect)
			s.fill(contents()["small chunks"], 4000, 300)
			s.again(collect)
			s.do(op{call: "Prune", path: longPath})
			s.again(collect)
			s.fill(contents()["small chunks"], 100, 300)
		}
	}
}

// fillWithTags tags until there is no room: it tells how many tags there are.
func (s *session) fillWithTags() int {
	s.t.Helper()
	for n := 0; ; n++ {
		o := op{call: "Tag", name: tagName(n), path: "held"}
		if _, err := o.on(s.archive); err != nil {
			expectError(s.t, s.what, err, api.ErrFull)
			expectSame(s.t, s.what, s.archive, s.model)
			return n
		}
		s.model.do(o)
	}
}

// P12: beside as many tags as can be just those tags go that are promised, to the last one; what counts is what was there, and what is done.
func TestTagsAtTheBound(t *testing.T) {
	for _, collect := range []bool{false, true} {
		for _, held := range []int{0, 1, 500} {
			s := newSession(t, fmt.Sprintf("full of tags, held %d", held), 200)
			s.do(op{call: "Put", path: "held", content: noise(1, held)})
			n := s.fillWithTags()
			s.account.left = 300
			s.again(collect)
			for i, o := range []op{
				{call: "Put", path: "a", content: noise(2, 500)}, {call: "Put", path: "A", content: noise(3, 77)}, {call: "Sync"}, {call: "Delete", path: "a"}, {call: "Prune", path: "a"},
				{call: "Untag", name: tagName(0)}, {call: "Tag", name: tagName(0), path: "held"}, {call: "Untag", name: "none"}, {call: "Tag", name: "none", path: "none"},
			} {
				if !s.do(o) {
					t.Fatalf("%s: call %d is not promised", s.what, i)
				}
			}
			// So that the last tag reaches the bound itself.
			s.do(op{call: "Put", path: "A", content: noise(1, s.account.left%300)})
			for ; s.account.left > 0; n++ {
				s.do(op{call: "Tag", name: tagName(n), path: "held"})
			}
			expectTag(t, s.archive, tagName(n), "held", 0, api.ErrFull)
			s.again(collect)
			s.do(op{call: "Tag", name: tagName(n), path: "held"})
		}
	}
}

// Where all pages have gaps, they are filled up.
func TestGapsAreFilled(t *testing.T) {
	for _, sectors := range []int{16, 40, 62} {
		s := newSession(t, "gaps", sectors)
		o := op{call: "Put", path: "held"}
		expectAnswer(t, s.what, s.archive, s.model, o)
		n := s.fillWithTags()
		for round := range 3 {
			for i := round % 2; i < n; i += 2 {
				expectAnswer(t, s.what, s.archive, s.model, op{call: "Untag", name: tagName(i)})
			}
			for i := round % 2; i < n; i += 2 {
				expectAnswer(t, s.what, s.archive, s.model, op{call: "Tag", name: tagName(i), path: "held"})
			}
			s.archive = reopened(t, s.archive, s.device, plenty)
			expectSame(t, s.what, s.archive, s.model)
		}
	}
}
