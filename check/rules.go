package check

import (
	"math"
	"slices"

	"stile/api"
	"stile/lexer"
)

// The rules, by their numbers.
const (
	ruleName = 1 + iota
	ruleTwice
	ruleMany
	ruleShape
	ruleUndeclared
	ruleOtherwise
	ruleDeep
)

// rule is a rule of things of one sort, and whether one of them breaks it.
type rule[T any] struct {
	number int
	broken func(thing T) bool
}

// ask gives up with the first rule that a thing breaks: a list has the least number first.
func ask[T any](rules []rule[T], at int, thing T) {
	for _, r := range rules {
		if r.broken(thing) {
			panic(api.Fault{At: at, Rule: r.number})
		}
	}
}

func (x *walker) makeDeclRules() []rule[declared] {
	return []rule[declared]{
		{ruleName, func(d declared) bool { return !lexer.Name(d.name) }},
		{ruleTwice, x.twice},
		{ruleMany, func(d declared) bool { return d.inList >= d.most }},
		{ruleShape, wrongWord},
	}
}

func (x *walker) makePartRules() []rule[part] {
	return []rule[part]{
		{ruleShape, func(p part) bool { return !p.fits }},
		{ruleUndeclared, func(p part) bool { return slices.ContainsFunc(p.uses, x.undeclared) }},
		{ruleOtherwise, func(p part) bool { return slices.ContainsFunc(p.uses, x.otherwise) }},
		{ruleDeep, func(p part) bool { return p.deep > api.MaxDeep }},
	}
}

// twice: a local may have a thread's name, but no other one from the top.
func (x *walker) twice(d declared) bool {
	if d.as != asLocal {
		return x.top.entries[d.name].first < d.inScope
	}
	return x.locals.entries[d.name].first < d.inScope || x.top.entries[d.name].roles&(asShared|asLock) != 0
}

func wrongWord(d declared) bool {
	if d.as == asShared {
		return d.word == math.MinInt64
	}
	return d.word != 0
}

// roles is as what a name is declared where the walk is.
func (x *walker) roles(name string) role {
	return x.top.entries[name].roles | x.locals.entries[name].roles
}

func (x *walker) undeclared(u use) bool { return x.roles(u.name) == 0 }
func (x *walker) otherwise(u use) bool  { return x.roles(u.name)&u.as == 0 }
