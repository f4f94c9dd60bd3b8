package scope_test

import (
	"testing"

	"accesscontrol/api"
	"accesscontrol/scope"
)

// P10.5: the requirements that are not met, with the permissions that are missing.
func TestMissing(t *testing.T) {
	for _, x := range []struct{ need, have, want string }{
		{"", "", ""}, {"", "type a@1", ""}, {"type a?@2", "", "type a?@2"}, {"type a?@2", "type a@1", ""}, {"type a?@2", "type a?@1", "type a?@2"}, {"type a@2", "", ""}, {"type a?@2", "type a?@1, type a@3", ""},
		{"type a?@2", "attribute a@1", "type a?@2"}, {"attribute a?@2", "type a@1", "attribute a?@2"}, {"type a?@2", "role a@1, any a@1, type A@1, type aa@1, type @1", "type a?@2"}, {"any a?@1", "type a@1", "any a?@1"}, {"any a?@1", "any a@1", ""},
		{"type b?@1, role r?@2, type a?@3, bool b?@4, type b?@5", "role r@9, bool b?@9", "type b?@1, type a?@3, bool b?@4, type b?@5"},
		{"role object_r?@1", "", ""}, {"role object_r?@1, role object_r@1, role r?@2", "", "role r?@2"}, {"type object_r?@1, user object_r?@1", "role object_r@1", "type object_r?@1, user object_r?@1"},
		{"class c?{p q}@2", "class c{q p}@1", ""}, {"class c?{p q r}@2", "class c{q}@1", "class c?{p r}@2"}, {"class c?{p q}@2", "", "class c?{p q}@2"}, {"class c?{p q}@2", "class c?{p q}@1", "class c?{p q}@2"}, {"class c?@2", "class c@1", ""}, {"class c?@2", "class d@1", "class c?@2"},
		{"class c?{p q r s}@2", "class c{q}@1, class d{p}@1, class c{s r}@3, class c?{p}@1, role c{p}@1", "class c?{p}@2"}, {"class c?{p q}@2", "class c{q}@1, class c{p}@1", ""}, {"class c?{p q}@2, class d?{p q}@3", "class d{p}@1", "class c?{p q}@2, class d?{q}@3"},
		{"class c?{q p q r q}@2", "class c{r}@1", "class c?{q p q q}@2"}, {"class c?{q p q r}@2", "", "class c?{q p q r}@2"}, {"class c{p}@2", "class c@1", ""}, {"class c?{p}@2, class c?{q}@3", "class c{p}@1", "class c?{q}@3"},
		{"type a?{p q}@2", "type a{q}@1", "type a?{p}@2"}, {"type a?{q}@2", "type a{q}@1", ""}, {"role object_r?{p}@1", "", ""},
	} {
		if got := scope.Missing(symbols(x.need), symbols(x.have)); spelled(got) != x.want {
			t.Errorf("Missing(%s; %s): got %s, want %s", x.need, x.have, spelled(got), x.want)
		}
	}
	odd := []api.Symbol{{Kind: -7, Required: true, Perms: []string{"", "p"}, Pos: api.Pos{Line: -1}}}
	if got := scope.Missing(odd, []api.Symbol{{Kind: -7, Perms: []string{"p"}}}); len(got) != 1 || len(got[0].Perms) != 1 || got[0].Perms[0] != "" || got[0].Kind != -7 || !got[0].Required || got[0].Pos.Line != -1 {
		t.Errorf("Missing of an odd symbol: got %v", got)
	}
}
