// Package grammar has what the parser, the printer and the linker know of the language: its words, and what may stand in it.
package grammar

import (
	"slices"

	"accesscontrol/api"
)

// MaxVersion is the greatest version of a module.
const MaxVersion = 9999

// Sort is a sort of words. Each word of a sort stands for a number.
type Sort int

// The sorts of words. After the dash stand the constants of package api that are the numbers.
const (
	Statements  Sort = iota // begin a statement, other than rules and type transitions - Stmt..
	Rules                   // begin a rule - Rule..
	Transitions             // begin a type transition - Trans..
	Symbols                 // what is required - Sym..
	Files                   // kinds of objects - File..
	Asserts                 // kinds of assertions - Assert..
	Attributes              // attributes in constraints - Attr.. of the first, the second and the third context
	Relations               // relations in constraints - Rel..
)

// Word returns the word that stands for a number, and nothing if there is none.
func Word(sort Sort, number int) string {
	l := words(sort)
	if number < 0 || number >= len(l) {
		return ""
	}
	return l[number]
}

// Number returns the number that a word stands for, and whether it is a word of this sort.
func Number(sort Sort, word string) (int, bool) {
	number := slices.Index(words(sort), word)
	if word == "" || number < 0 { // a number without a word has the empty one
		return 0, false
	}
	return number, true
}

// ObjectName reports whether s can be the name of an object in a directory.
func ObjectName(s string) bool {
	for i := range len(s) {
		if c := s[i]; c < '!' || c > '~' || c == '/' || c == '"' {
			return false
		}
	}
	return 1 <= len(s) && len(s) <= api.MaxName
}

// words returns the words of a sort, each at its number.
func words(sort Sort) []string {
	switch sort {
	case Statements:
		return statements()
	case Rules:
		return []string{api.RuleAllow: "allow", api.RuleAuditAllow: "auditallow", api.RuleDontAudit: "dontaudit", api.RuleNeverAllow: "neverallow"}
	case Transitions:
		return []string{api.TransCreate: "type_transition", api.TransChange: "type_change", api.TransMember: "type_member"}
	case Symbols:
		return []string{api.SymClass: "class", api.SymType: "type", api.SymAttribute: "attribute", api.SymRole: "role",
			api.SymUser: "user", api.SymBool: "bool", api.SymSensitivity: "sensitivity", api.SymCategory: "category"}
	case Files:
		return []string{api.FileAny: "any", api.FileRegular: "regular", api.FileDirectory: "directory", api.FileLink: "link", api.FileSocket: "socket"}
	case Asserts:
		return []string{api.AssertNoFlow: "noflow", api.AssertNoDomain: "nodomain", api.AssertSeparate: "separate"}
	case Attributes:
		return slices.Concat(attributes("1"), attributes("2"), attributes("3"))
	case Relations:
		return []string{api.RelSame: "==", api.RelDiffer: "!=", api.RelDominates: "dom", api.RelDominatedBy: "domby", api.RelIncomparable: "incomp"}
	}
	return nil
}

// statements returns the first words of statements. Rules and type transitions have none for their kind.
func statements() []string {
	return []string{
		api.StmtClass:       "class",
		api.StmtType:        "type",
		api.StmtAttribute:   "attribute",
		api.StmtMember:      "typeattribute",
		api.StmtRole:        "role",
		api.StmtRoleAllow:   "roleallow",
		api.StmtRoleTrans:   "role_transition",
		api.StmtUser:        "user",
		api.StmtBool:        "bool",
		api.StmtSensitivity: "sensitivity",
		api.StmtCategory:    "category",
		api.StmtRangeTrans:  "range_transition",
		api.StmtConstrain:   "constrain",
		api.StmtValidate:    "validatetrans",
		api.StmtIf:          "if",
		api.StmtOptional:    "optional",
		api.StmtRequire:     "require",
		api.StmtSid:         "sid",
		api.StmtFile:        "filecon",
		api.StmtPermissive:  "permissive",
		api.StmtAssert:      "assert",
	}
}

// attributes returns the attributes of the context with this number.
func attributes(context string) []string {
	return []string{api.AttrUser: "u" + context, api.AttrRole: "r" + context, api.AttrType: "t" + context, api.AttrLow: "l" + context, api.AttrHigh: "h" + context}
}
