package sidtab_test

import (
	"slices"
	"strings"
	"testing"

	"accesscontrol/api"
	"accesscontrol/linker"
	"accesscontrol/sidtab"
)

// other has names of base in another order: a is an alias, b and r3 and c3 and s2 are missing.
const other = `class file { read };
attribute b;
type c; type n alias { k a }; type m alias { g };
sensitivity s0; sensitivity s1;
category c2; category c0; category c1;
role r2 types { c m }; role r1 types { n c };
user w roles { r1 } level s0 range s0;
user v roles { r2 r1 } level s1 range s0-s1:c2.c1;
user u roles { r1 } level s1:c0 range s0-s1:c2,c0;
`

// filled returns the table of a policy with further identifiers.
func filled(t *testing.T, p api.Policy, texts ...string) *sidtab.Table {
	t.Helper()
	x := table(t, p)
	for _, s := range texts {
		checkSid(t, x, parsed(t, p, s), x.Len()+1, api.OK)
	}
	return x
}

// P27.4: the example: an identifier whose type is gone, and comes back.
func TestConvert(t *testing.T) {
	p := policy(t, small)
	q := policy(t, strings.NewReplacer("type user_t, domain;", "", " user_t", "").Replace(small))
	x := filled(t, p, "root:system:user_t:s0")
	y := convert(t, x, p, q, 1)
	initial := []row{{"kernel", "root:system:init_t:s0"}, {"root", "root:object_r:file_t:s0"}, {"unlabeled", "root:object_r:file_t:s0"}}
	checkTable(t, y, q, append(initial[:3:3], row{"-", "-root:system:user_t:s0"})...)
	checkTable(t, convert(t, y, q, p, 0), p, append(initial[:3:3], row{"-", "root:system:user_t:s0"})...)
	checkTable(t, convert(t, y, q, q, 1), q, append(initial[:3:3], row{"-", "-root:system:user_t:s0"})...)
	checkTable(t, x, p, append(initial[:3:3], row{"-", "root:system:user_t:s0"})...)
	checkSid(t, y, parsed(t, q, "root:object_r:shell_t:s0"), 5, api.OK)
	checkTable(t, convert(t, y, q, p, 0), p, append(initial[:3:3], row{"-", "root:system:user_t:s0"}, row{"-", "root:object_r:shell_t:s0"})...)
}

// P27.4: contexts are moved by their names, or are lost.
func TestConvertByNames(t *testing.T) {
	p, q := policy(t, base), policy(t, other)
	moves := []struct{ from, to string }{
		{"u:r1:a:s0", "u:r1:n:s0"},
		{"u:r1:b:s0", "-u:r1:b:s0"},                        // the type is gone
		{"u:r1:a:s0:c2-s1:c0,c2", "u:r1:n:s0:c2-s1:c2.c0"}, // categories have other numbers
		{"u:r2:c:s0", "-u:r2:c:s0"},                        // the user does not have the role
		{"v:object_r:a:s0-s2", "-v:object_r:a:s0-s2"},      // a sensitivity is gone
		{"v:object_r:a:s0:c3", "-v:object_r:a:s0:c3"},      // a category is gone
		{"v:r2:c:s1:c0.c2", "v:r2:c:s1:c2.c1"},
		{"u:r1:a:s0-s1:c0.c2", "-u:r1:a:s0-s1:c0.c2"},            // outside of the user's range
		{"u:object_r:a:s0-s1:c0.c2", "u:object_r:n:s0-s1:c2.c1"}, // which does not limit objects
	}
	x := table(t, p)
	var before, after, back []row
	for n, m := range moves {
		checkSid(t, x, parsed(t, p, m.from), n+1, api.OK)
		before, after, back = append(before, row{"-", m.from}), append(after, row{"-", m.to}), append(back, row{"-", m.from})
		if strings.Contains(m.to, ":n:") {
			back[n].text = "-" + m.to // p has no type n: the home has become q
		}
	}
	y := convert(t, x, p, q, 5)
	checkTable(t, y, q, after...)
	checkTable(t, x, p, before...)
	checkTable(t, convert(t, y, q, p, 3), p, back...)
	checkTable(t, convert(t, convert(t, y, q, p, 3), p, q, 5), q, after...)
}

// P27.4: an identifier with a name gets the context that the policy gives to the name, wherever its own could be moved.
func TestConvertOfNames(t *testing.T) {
	p := policy(t, base+"sid k u:r1:a:s0; sid lost u:r1:b:s0; sid m v:object_r:c:s2; sid moved v:object_r:c:s1; sid gone v:object_r:b:s0;")
	q := policy(t, other+"sid x v:object_r:n:s1; sid lost w:r1:c:s0; sid k v:r2:m:s1:c1; sid y v:object_r:n:s1; sid m u:object_r:c:s0;")
	x := filled(t, p, "u:object_r:a:s0")
	checkSid(t, x, parsed(t, p, "u:r1:b:s0"), 2, api.OK)
	y := convert(t, x, p, q, 1)
	rows := []row{{"k", "v:r2:m:s1:c1"}, {"lost", "w:r1:c:s0"}, {"m", "u:object_r:c:s0"}, {"moved", "v:object_r:c:s1"}, {"gone", "-v:object_r:b:s0"}, {"-", "u:object_r:n:s0"}, {"x", "v:object_r:n:s1"}, {"y", "v:object_r:n:s1"}}
	checkTable(t, y, q, rows...)
	checkSid(t, y, parsed(t, q, "v:object_r:n:s1"), 7, api.OK)
	checkSid(t, y, parsed(t, q, "w:r1:c:s0"), 2, api.OK)
	checkSid(t, y, parsed(t, q, "v:object_r:c:s0"), 9, api.OK)
	rows = append(rows, row{"-", "v:object_r:c:s0"})
	checkTable(t, y, q, rows...)

	none := policy(t, other)
	z := convert(t, y, q, none, 1) // names stay, and contexts of names that are gone are moved
	checkTable(t, z, none, rows...)
	checkTable(t, convert(t, z, none, policy(t, other+"sid gone v:object_r:c:s0:c0;"), 0), none, slices.Concat(rows[:4], []row{{"gone", "v:object_r:c:s0:c0"}}, rows[5:])...)
	back := convert(t, z, none, p, 3)
	checkTable(t, back, p, row{"k", "u:r1:a:s0"}, row{"lost", "u:r1:b:s0"}, row{"m", "v:object_r:c:s2"}, row{"moved", "v:object_r:c:s1"}, row{"gone", "v:object_r:b:s0"},
		row{"-", "-u:object_r:n:s0"}, row{"x", "-v:object_r:n:s1"}, row{"y", "-v:object_r:n:s1"}, row{"-", "v:object_r:c:s0"})
}

// P27.4: a home stays through policies in which the identifier is not mapped, and another home replaces it.
func TestHomes(t *testing.T) {
	p := policy(t, small)
	only := func(types string) api.Policy { // a policy with these types for the role
		return policy(t, "class file { read }; sensitivity s0; "+types+" role system types *; user root roles { system } level s0 range s0;")
	}
	without, empty, renamed, named := only("type other_t;"), only("type init_t;"), only("type new_t alias { user_t };"), only("type new_t; type user_t;")
	x := filled(t, p, "root:system:user_t:s0")
	rows := []row{{"kernel", "-root:system:init_t:s0"}, {"root", "-root:object_r:file_t:s0"}, {"unlabeled", "-root:object_r:file_t:s0"}, {"-", "-root:system:user_t:s0"}}
	y := convert(t, x, p, without, 4)
	checkTable(t, y, without, rows...)
	rows[0].text = "root:system:init_t:s0"
	z := convert(t, y, without, empty, 3)
	checkTable(t, z, empty, rows...)
	rows[0].text, rows[3].text = "-root:system:init_t:s0", "root:system:new_t:s0"
	y = convert(t, z, empty, renamed, 3)
	checkTable(t, y, renamed, rows...)
	rows[3].text = "root:system:new_t:s0"
	checkTable(t, convert(t, y, renamed, named, 3), named, rows...)
	rows[3].text = "-root:system:new_t:s0"
	z = convert(t, convert(t, y, renamed, without, 4), without, without, 4)
	checkTable(t, z, without, rows...)
	checkSid(t, z, parsed(t, without, "root:system:other_t:s0"), 5, api.OK)
	rows[0].text, rows[1].text, rows[2].text = "root:system:init_t:s0", "root:object_r:file_t:s0", "root:object_r:file_t:s0"
	back := convert(t, z, without, p, 2) // the homes are p, renamed and without
	checkTable(t, back, p, append(rows, row{"-", "-root:system:other_t:s0"})...)
	if _, _, code := back.Convert(p, named); code != api.OK {
		t.Errorf("got %v", code)
	}
}

// P27.4: an identifier that is not mapped has no context, even if that in its home has the numbers of one.
func TestSidOfLost(t *testing.T) {
	p := policy(t, base)
	q := policy(t, base)
	q.Types = []api.Type{{Name: "z"}, {Name: "a", Aliases: []string{"b"}}, {Name: "c"}}
	x := filled(t, p, "u:object_r:c:s0", "u:object_r:a:s0", "u:object_r:b:s0")
	lost := with(0, 0, 0, only(lvl(0, 0)))
	checkSid(t, x, lost, 2, api.OK)
	q.Types[1].Aliases = nil
	y := convert(t, x, p, q, 1)
	checkTable(t, y, q, row{"-", "u:object_r:c:s0"}, row{"-", "u:object_r:a:s0"}, row{"-", "-u:object_r:b:s0"})
	checkSid(t, y, lost, 4, api.OK) // in q, the numbers are those of z
	checkSid(t, y, with(0, 0, 1, only(lvl(0, 0))), 2, api.OK)

	q.Types[1].Aliases = []string{"b"}
	y = convert(t, x, p, q, 0)
	checkTable(t, y, q, row{"-", "u:object_r:c:s0"}, row{"-", "u:object_r:a:s0"}, row{"-", "u:object_r:a:s0"})
	checkSid(t, y, with(0, 0, 1, only(lvl(0, 0))), 2, api.OK)
	y = convert(t, y, q, p, 0)
	checkSid(t, y, parsed(t, p, "u:object_r:a:s0"), 2, api.OK)
	checkSid(t, y, parsed(t, p, "u:object_r:b:s0"), 4, api.OK)
}

// P27.4: ErrContext for what New refuses; nothing has changed after it.
func TestConvertErrors(t *testing.T) {
	p := policy(t, base)
	x := filled(t, p, "u:r1:a:s0")
	q := policy(t, base)
	for c, code := range wrong() {
		for at := range 3 {
			q.Sids = initials(3)
			q.Sids[at].Context = c
			if linker.Check(q) != code {
				t.Errorf("the policy with %v is valid", c)
			}
			checkFails(t, x, p, q, api.ErrContext)
		}
	}
	for _, n := range []int{1025, 3000} {
		q.Sids = initials(n)
		checkFails(t, x, p, q, api.ErrContext)
	}
	checkTable(t, x, p, row{"-", "u:r1:a:s0"})
	checkSid(t, x, with(0, 0, 0, api.Range{}), 2, api.OK)
}

// P27.4: ErrFull, if there would be more than MaxSids identifiers; names that the table has need no further ones.
func TestConvertToFull(t *testing.T) {
	p := policy(t, base)
	for _, size := range []struct{ named, all, further int }{{0, 0, 1024}, {0, 1, 1023}, {3, 3, 1021}, {3, 700, 324}, {1024, 1024, 0}, {5, 1024, 0}, {1, 1023, 1}} {
		p.Sids = initials(size.named)
		x := table(t, p)
		for _, c := range many(p, 1025)[1:] {
			if x.Len() < size.all {
				x.Sid(c)
			}
		}
		q := policy(t, base)
		q.Sids = initials(size.named + size.further)
		y := convert(t, x, p, q, 0)
		if x.Len() != size.all || y.Len() != 1024 {
			t.Errorf("got %d and %d identifiers", x.Len(), y.Len())
		}
		for n, s := range q.Sids[size.named:] {
			checkRow(t, y, q, size.all+n+1, row{s.Name, "u:object_r:a:s0"})
		}
		checkSid(t, y, with(0, 1, 1, only(lvl(0, 0))), 0, api.ErrFull) // of a process, which none of the others is
		if size.named == 1024 {
			continue
		}
		q.Sids = append(initials(size.named+size.further), api.InitialSid{Name: "more"})
		want := api.ErrFull
		if len(q.Sids) > api.MaxSids {
			want = api.ErrContext
		}
		checkFails(t, x, p, q, want)
		q.Sids[len(q.Sids)-1].Context.Type = 9
		checkFails(t, x, p, q, api.ErrContext)
		if x.Len() != size.all {
			t.Errorf("got %d identifiers", x.Len())
		}
	}
}

// P27.4: identifiers that are not mapped count for ErrFull, too, and a table that is full is converted.
func TestConvertOfFull(t *testing.T) {
	p := policy(t, base)
	x := table(t, p)
	for n, c := range many(p, 1024) {
		checkSid(t, x, c, n+1, api.OK)
	}
	q := policy(t, small)
	for range 3 {
		y := convert(t, x, p, api.Policy{}, 1024)
		checkFails(t, y, api.Policy{}, q, api.ErrFull)
		x = convert(t, y, api.Policy{}, p, 0)
		for n, c := range many(p, 1024) {
			checkSid(t, x, c, n+1, api.OK)
		}
	}
}
