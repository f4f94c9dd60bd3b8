package printer

import (
	"slices"

	"accesscontrol/api"
	"accesscontrol/boolexp"
)

func sameStatement(a, b *api.Stmt) bool {
	return a.Kind == b.Kind && a.Op == b.Op && a.Name == b.Name && a.Result == b.Result && a.Text == b.Text && a.Value == b.Value &&
		slices.Equal(a.List, b.List) && slices.Equal(a.Aliases, b.Aliases) &&
		sameSet(a.Source, b.Source) && sameSet(a.Target, b.Target) && sameSet(a.Class, b.Class) && sameSet(a.Perms, b.Perms) &&
		boolexp.Same(a.Cond, b.Cond) && sameLevel(a.Level, b.Level) && sameRange(a.Range, b.Range) && sameContext(a.Context, b.Context) &&
		SameStatements(a.Then, b.Then) && SameStatements(a.Else, b.Else)
}

func sameSet(a, b api.NameSet) bool {
	return a.All == b.All && a.Not == b.Not && a.Self == b.Self && slices.Equal(a.Names, b.Names) && slices.Equal(a.Except, b.Except)
}

func sameLevel(a, b api.LevelText) bool {
	return a.Sens == b.Sens && slices.Equal(a.Cats, b.Cats)
}

func sameRange(a, b api.RangeText) bool {
	return sameLevel(a.Low, b.Low) && sameLevel(a.High, b.High)
}

func sameContext(a, b api.ContextText) bool {
	return a.User == b.User && a.Role == b.Role && a.Type == b.Type && sameRange(a.Range, b.Range)
}
