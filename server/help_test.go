package server_test

import (
	"math"
	"slices"
	"testing"

	"accesscontrol/api"
	"accesscontrol/binary"
	"accesscontrol/compiler"
	"accesscontrol/context"
	"accesscontrol/octet"
	"accesscontrol/server"
)

// small is the source of the examples.
const small = `module small 1;
class process { fork transition dyntransition send };
class file { read write create unlink execute entrypoint relabelfrom relabelto };
class dir { read write create unlink add remove relabelfrom relabelto };
sensitivity s0;
attribute domain;
type init_t, domain;
type user_t, domain;
type file_t;
type shell_t;
bool share false;
role system types { init_t user_t };
user root roles { system } level s0 range s0;
allow domain self : process { fork send };
allow init_t { file_t shell_t } : file { read execute };
allow init_t user_t : process transition;
allow user_t shell_t : file entrypoint;
type_transition init_t shell_t : process user_t;
if share { allow user_t file_t : file read; }
sid kernel root:system:init_t:s0;
sid root root:object_r:file_t:s0;
sid unlabeled root:object_r:file_t:s0;
`

// other has what small has without user_t, more booleans, other numbers, and a further initial identifier. Its unlabeled is another context.
const other = `module other 1;
sensitivity s0;
type net_t; type shell_t; type file_t; type init_t;
class dir { read add };
class file { write read execute create };
class process { fork send };
bool debug true; bool share true; bool trace false;
role system types init_t;
user root roles { system } level s0 range s0;
allow init_t init_t : process send;
allow init_t net_t : file read;
if debug && !trace { allow init_t file_t : file { read write }; auditallow init_t file_t : file read; }
if share { allow init_t shell_t : file *; dontaudit init_t shell_t : file write; type_transition init_t file_t : file shell_t; }
sid net root:object_r:net_t:s0;
sid unlabeled root:object_r:net_t:s0;
sid kernel root:system:init_t:s0;
`

// bare has no initial identifiers, no booleans, neither init_t nor the class process.
const bare = `module bare 1;
class file { read };
sensitivity s0;
type user_t; type file_t;
role system types user_t;
user root roles { system } level s0 range s0;
permissive user_t;
allow user_t file_t : file read;
`

// full has a permissive type, transitions of all kinds, and 512 ranges.
const full = `module full 1;
class process { fork transition };
class file { read write };
class dir { add };
sensitivity s0; sensitivity s1;
category c0; category c1; category c2; category c3; category c4; category c5; category c6; category c7; category c8;
type a; type b; type c alias { d }; type init_t;
bool debug false; bool on true;
role q types { a b }; role r types { b c };
roleallow q r;
user u roles { q r } level s0 range s0-s1:c0.c8;
user v roles { q } level s0 range s0-s1;
permissive b;
allow { a b } c : file read;
if on { allow a b : file write; type_transition a c : process b; } else { allow b a : file write; type_transition a c : file a; }
if debug { auditallow a c : file read; dontaudit a c : file write; type_transition a b : file c; }
type_transition a b : file a "log";
role_transition q c : process r;
range_transition a b : file s1:c0;
sid kernel u:q:a:s0;
sid unlabeled u:object_r:c:s1;
sid root u:object_r:b:s0;
`

// encoded returns the encoding of the policy of a source.
func encoded(t *testing.T, src string) []byte {
	t.Helper()
	return encoding(t, policy(t, src))
}

// policy returns the policy of a source.
func policy(t *testing.T, src string) api.Policy {
	t.Helper()
	p, _, f := compiler.Compile([]string{src})
	if f.Code != api.OK {
		t.Fatalf("Compile of %q: got %v", src[:20], f)
	}
	return p
}

// encoding returns the encoding of a policy.
func encoding(t *testing.T, p api.Policy) []byte {
	t.Helper()
	b, code := binary.Encode(p, slices.Max(binary.Versions()))
	if code != api.OK {
		t.Fatalf("Encode: got %v", code)
	}
	return b
}

// parsed returns the context of a text.
func parsed(t *testing.T, p api.Policy, text string) api.Context {
	t.Helper()
	c, code := context.Parse(p, text)
	if code != api.OK {
		t.Fatalf("Parse(%q): got %v", text, code)
	}
	return c
}

// empty returns a server without a policy.
func empty(t *testing.T, size int) *server.Server {
	t.Helper()
	s := server.New(size)
	if s == nil {
		t.Fatalf("New(%d) is nil", size)
	}
	return s
}

// started returns a server with the policy of a source.
func started(t *testing.T, size int, src string) *server.Server {
	t.Helper()
	s := empty(t, size)
	load(t, s, src)
	return s
}

// load loads the policy of a source.
func load(t *testing.T, s *server.Server, src string) {
	t.Helper()
	checkCode(t, "Load", s.Load(encoded(t, src)), api.OK)
}

// set changes a boolean.
func set(t *testing.T, s *server.Server, name string, value bool) {
	t.Helper()
	checkCode(t, "SetBools", s.SetBools([]api.Bool{{Name: name, Value: value}}), api.OK)
}

// sids assigns identifiers to contexts from the identifier first on.
func sids(t *testing.T, s *server.Server, first int, texts ...string) {
	t.Helper()
	for i, text := range texts {
		checkSid(t, s, text, first+i, api.OK)
	}
}

func checkCode(t *testing.T, call string, got, want api.Errno) {
	t.Helper()
	if got != want {
		t.Errorf("%s: got %v, want %v", call, got, want)
	}
}

func checkStep(t *testing.T, s *server.Server, want api.Errno) {
	t.Helper()
	if done, code := s.Step(); done != (want == api.OK) || code != want {
		t.Errorf("Step: got %v, %v, want %v", done, code, want)
	}
}

// checkSid checks the identifier of a context; 0 if there is an error.
func checkSid(t *testing.T, s *server.Server, text string, want int, code api.Errno) {
	t.Helper()
	if got, err := s.Sid(text); got != want || err != code {
		t.Errorf("Sid(%q): got %d, %v, want %d, %v", text, got, err, want, code)
	}
}

// checkContext checks the context of an identifier for decisions.
func checkContext(t *testing.T, s *server.Server, sid int, text string) {
	t.Helper()
	p, _ := s.Policy()
	if got, code := s.Context(sid); got != parsed(t, p, text) || code != api.OK {
		t.Errorf("Context(%d): got %v, %v, want %s", sid, got, code, text)
	}
}

func checkNoContext(t *testing.T, s *server.Server, sid int, want api.Errno) {
	t.Helper()
	if got, code := s.Context(sid); got != (api.Context{}) || code != want {
		t.Errorf("Context(%d): got %v, %v, want %v", sid, got, code, want)
	}
}

func checkText(t *testing.T, s *server.Server, sid int, want string, code api.Errno) {
	t.Helper()
	if got, err := s.Text(sid); got != want || err != code {
		t.Errorf("Text(%d): got %q, %v, want %q, %v", sid, got, err, want, code)
	}
}

// checkAccess checks a decision; zero if there is an error.
func checkAccess(t *testing.T, s *server.Server, source, target, class int, want api.Decision, code api.Errno) {
	t.Helper()
	if got, err := s.Access(source, target, class); got != want || err != code {
		t.Errorf("Access(%d, %d, %d): got %v, %v, want %v, %v", source, target, class, got, err, want, code)
	}
}

func checkProcess(t *testing.T, s *server.Server, source, file, want int, code api.Errno) {
	t.Helper()
	if got, err := s.NewProcess(source, file); got != want || err != code {
		t.Errorf("NewProcess(%d, %d): got %d, %v, want %d, %v", source, file, got, err, want, code)
	}
}

func checkObject(t *testing.T, s *server.Server, source, dir, class int, name string, want int, code api.Errno) {
	t.Helper()
	if got, err := s.NewObject(source, dir, class, name); got != want || err != code {
		t.Errorf("NewObject(%d, %d, %d, %q): got %d, %v, want %d, %v", source, dir, class, name, got, err, want, code)
	}
}

// checkPolicy checks the number, the policy, and the state as values from the first one on.
func checkPolicy(t *testing.T, s *server.Server, seq int, want api.Policy, state ...bool) {
	t.Helper()
	if got := s.Seq(); got != seq {
		t.Errorf("Seq: got %d, want %d", got, seq)
	}
	if got, ok := s.Policy(); !ok || !compiler.Equal(got, want) {
		t.Errorf("Policy: got %v, %v", got, ok)
	}
	if got := s.State(); !slices.Equal(got, state) {
		t.Errorf("State: got %v, want %v", got, state)
	}
}

// checkNoPolicy checks what a server says of itself that has no policy, or is none.
func checkNoPolicy(t *testing.T, s *server.Server) {
	t.Helper()
	if got := s.Seq(); got != 0 {
		t.Errorf("Seq: got %d", got)
	}
	if got, ok := s.Policy(); ok || !compiler.Equal(got, api.Policy{}) {
		t.Errorf("Policy: got %v, %v", got, ok)
	}
	if got := s.State(); len(got) > 0 {
		t.Errorf("State: got %v", got)
	}
	checkStats(t, s, 0, 0, 0, 0)
}

// checkQuestions checks the error of everything that needs a policy.
func checkQuestions(t *testing.T, s *server.Server, want api.Errno) {
	t.Helper()
	for _, n := range []int{1, 0, -1, 2, math.MaxInt, math.MinInt} {
		checkNoContext(t, s, n, want)
		checkText(t, s, n, "", want)
		checkAccess(t, s, n, 1, 0, api.Decision{}, want)
		checkAccess(t, s, 1, n, 0, api.Decision{}, want)
		checkAccess(t, s, 1, 1, n, api.Decision{}, want)
		checkProcess(t, s, n, 1, 0, want)
		checkProcess(t, s, 1, n, 0, want)
		checkObject(t, s, n, 1, 0, "log", 0, want)
		checkObject(t, s, 1, 1, n, "", 0, want)
	}
	for _, text := range []string{"", ":::", "root:object_r:file_t:s0"} {
		checkSid(t, s, text, 0, want)
	}
	for _, l := range [][]api.Bool{nil, {{Name: "share"}}} {
		checkCode(t, "SetBools", s.SetBools(l), want)
	}
}

func checkStats(t *testing.T, s *server.Server, want ...int) {
	t.Helper()
	hits, misses, evicted, resets := s.Stats()
	if got := []int{hits, misses, evicted, resets}; !slices.Equal(got, want) {
		t.Errorf("Stats: got %v, want %v", got, want)
	}
}

// wrong returns bytes that are no encodings, by what is wrong with them.
func wrong(t *testing.T) map[string][]byte {
	t.Helper()
	good := encoded(t, small)
	body, code := octet.Open(good)
	if code != api.OK {
		t.Fatalf("Open: got %v", code)
	}
	flipped := slices.Clone(good)
	flipped[len(flipped)/2] ^= 1
	return map[string][]byte{
		"nothing":        nil,
		"two bytes":      {1, 2},
		"the sum":        flipped,
		"a byte less":    good[:len(good)-1],
		"a byte more":    append(slices.Clone(good), 0),
		"the first byte": octet.Seal([]byte("BCPB\x01")),
		"the version":    octet.Seal([]byte("ACPB\x04")),
		"the end":        octet.Seal(body[:len(body)-1]),
		"what follows":   octet.Seal(append(slices.Clone(body), 0)),
		"the policy":     octet.Seal(append([]byte("ACPB\x01"), make([]byte, 14)...)), // without the role of objects
	}
}

// picker picks numbers below its argument, by a rule that the seed begins.
type picker func(int) int

func newPicker(seed int) picker {
	state := uint32(seed)
	return func(n int) int {
		state = state*1664525 + 1013904223
		return int(state>>16) % n
	}
}
