package versions_test

import (
	"fmt"
	"regexp"
	"slices"
	"strings"
	"testing"

	"versions/api"
	"versions/versions"
)

// op is a call that changes something, or makes it safe.
type op struct {
	call       string
	name, path string
	number     int
	content    []byte
}

// on makes the call on an archive.
func (o op) on(a *versions.Archive) (int, error) {
	switch o.call {
	case "Put":
		return a.Put(o.path, o.content)
	case "Delete":
		return 0, a.Delete(o.path, o.number)
	case "Prune":
		return a.Prune(o.path, o.number)
	case "Tag":
		return 0, a.Tag(o.name, o.path, o.number)
	case "Untag":
		return 0, a.Untag(o.name)
	case "Collect":
		return 0, a.Collect()
	case "Sync":
		return 0, a.Sync()
	}
	panic(o.call)
}

// changes tells whether it is one of the calls that change something.
func (o op) changes() bool { return o.call != "Sync" && o.call != "Collect" }

func (o op) String() string {
	return fmt.Sprintf("%s(%q, %q, %d, %d bytes)", o.call, o.name, o.path, o.number, len(o.content))
}

// kept is a version.
type kept struct {
	number  int
	content string
}

// model is an archive with room, as plainly as can be.
type model struct {
	files  map[string][]kept
	tags   map[string]api.Pin
	stored map[string]int // the chunks, and their lengths
	quota  int
}

func newModel() *model {
	return &model{files: map[string][]kept{}, tags: map[string]api.Pin{}, stored: map[string]int{}, quota: plenty}
}

var pathForm = regexp.MustCompile(`\A[a-z0-9._-]+(/[a-z0-9._-]+)*\z`)

func isPath(s string) bool { return len(s) <= 20 && pathForm.MatchString(s) }

// find finds a version; -1, if there is none.
func (m *model) find(path string, number int) int {
	list := m.files[path]
	if number == 0 {
		return len(list) - 1
	}
	return slices.IndexFunc(list, func(v kept) bool { return v.number == number })
}

func (m *model) held(path string, number int) bool {
	for _, pin := range m.tags {
		if pin.Path == path && pin.Version == number {
			return true
		}
	}
	return false
}

func (m *model) bytes() int {
	n := 0
	for _, list := range m.files {
		for _, v := range list {
			n += len(v.content)
		}
	}
	return n
}

// put adds a version and tells its number.
func (m *model) put(path string, content []byte) int {
	n, _ := m.do(op{call: "Put", path: path, content: content})
	return n
}

// do makes the call, and tells the answers.
func (m *model) do(o op) (int, api.Errno) {
	i := m.find(o.path, o.number)
	switch o.call {
	case "Untag":
		return 0, m.untag(o.name)
	case "Collect":
		m.free()
		return 0, api.OK
	case "Sync":
		return 0, api.OK
	}
	switch _, exists := m.tags[o.name]; {
	case !isPath(o.path), o.call == "Tag" && !isPath(o.name):
		return 0, api.ErrPath
	case o.call == "Put":
		return m.doPut(o.path, o.content)
	case o.call == "Prune":
		return m.prune(o.path, o.number)
	case i < 0:
		return 0, api.ErrMissing
	case o.call == "Tag" && exists:
		return 0, api.ErrExists
	case o.call == "Tag":
		m.tags[o.name] = api.Pin{Tag: o.name, Path: o.path, Version: m.files[o.path][i].number}
	case m.held(o.path, m.files[o.path][i].number):
		return 0, api.ErrPinned
	default:
		m.files[o.path] = slices.Delete(m.files[o.path], i, i+1)
	}
	return 0, api.OK
}

func (m *model) doPut(path string, content []byte) (int, api.Errno) {
	if len(content) > api.MaxContent {
		return 0, api.ErrSize
	}
	if m.bytes()+len(content) > m.quota {
		return 0, api.ErrQuota
	}
	number := 1
	if list := m.files[path]; len(list) > 0 {
		number = list[len(list)-1].number + 1
	}
	// Behind the greatest int it wraps round.
	if number < 0 {
		return 0, api.ErrCorrupt
	}
	m.files[path] = append(m.files[path], kept{number, string(content)})
	m.store(content)
	return number, api.OK
}

func (m *model) prune(path string, keep int) (int, api.Errno) {
	list := m.files[path]
	if len(list) == 0 {
		return 0, api.ErrMissing
	}
	var left []kept
	for i, v := range list {
		if i >= len(list)-max(keep, 0) || m.held(path, v.number) {
			left = append(left, v)
		}
	}
	m.files[path] = left
	return len(list) - len(left), api.OK
}

func (m *model) untag(name string) api.Errno {
	if !isPath(name) {
		return api.ErrPath
	}
	if _, ok := m.tags[name]; !ok {
		return api.ErrMissing
	}
	delete(m.tags, name)
	return api.OK
}

// store adds the chunks of a content.
func (m *model) store(content []byte) {
	for _, n := range versions.Cuts(content) {
		m.stored[string(content[:n])] = n
		content = content[n:]
	}
}

// free lets all chunks go but those that versions have.
func (m *model) free() {
	clear(m.stored)
	for _, list := range m.files {
		for _, v := range list {
			m.store([]byte(v.content))
		}
	}
}

func (m *model) storedIn() api.Stored {
	var s api.Stored
	for _, n := range m.stored {
		s.Chunks++
		s.Bytes += n
	}
	return s
}

// line tells a version.
func line(path string, number, all int, content string) string {
	return fmt.Sprintf("%s %d of %d: %s", path, number, all, content)
}

// hex tells a content.
func hex[T string | []byte](content T) string { return fmt.Sprintf("%x", content) }

// tell tells all that is there.
func (m *model) tell() string {
	var lines []string
	for path, list := range m.files {
		for _, v := range list {
			lines = append(lines, line(path, v.number, len(list), hex(v.content)))
		}
	}
	for _, pin := range m.tags {
		lines = append(lines, fmt.Sprint("tag ", pin))
	}
	slices.Sort(lines)
	return strings.Join(lines, "\n")
}

// tell tells all that an archive has, as model.tell does.
func tell(t testing.TB, a *versions.Archive) string {
	t.Helper()
	return tellBy(t, a, func(e api.Entry, number int) string {
		b, err := a.Get(e.Path, number)
		if err != nil || number == e.Latest && len(b) != e.Size {
			t.Fatalf("%v, but Get of %d: %d bytes, %v", e, number, len(b), err)
		}
		return hex(b)
	})
}

// tellBy tells likewise, with the contents as they are told; and whether List, Versions and Tags agree with one another.
func tellBy(t testing.TB, a *versions.Archive, content func(e api.Entry, number int) string) string {
	t.Helper()
	var lines []string
	entries, err := a.List("")
	if err != nil {
		t.Fatalf("List: %v", err)
	}
	for _, e := range entries {
		numbers, err := a.Versions(e.Path)
		if err != nil || len(numbers) != e.Versions || numbers[len(numbers)-1] != e.Latest {
			t.Fatalf("%v, but Versions: %v, %v", e, numbers, err)
		}
		for _, n := range numbers {
			lines = append(lines, line(e.Path, n, len(numbers), content(e, n)))
		}
	}
	pins, err := a.Tags()
	if err != nil || !slices.IsSortedFunc(pins, func(x, y api.Pin) int { return strings.Compare(x.Tag, y.Tag) }) {
		t.Fatalf("Tags: %v, %v", pins, err)
	}
	for _, pin := range pins {
		lines = append(lines, fmt.Sprint("tag ", pin))
	}
	slices.Sort(lines)
	return strings.Join(lines, "\n")
}

// expectSame: an archive has what the model has.
func expectSame(t testing.TB, what string, a *versions.Archive, m *model) {
	t.Helper()
	if got, want := tell(t, a), m.tell(); got != want {
		t.Fatalf("%s: %.3000q\nwant\n%.3000q", what, got, want)
	}
	if got, err := a.Stored(); err != nil || got != m.storedIn() {
		t.Fatalf("%s: Stored: %v, %v, want %v", what, got, err, m.storedIn())
	}
}
