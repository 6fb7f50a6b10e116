package lore

import (
	"sluice/api"
	"sluice/grain"
)

// filled tells a program whose params stand for these arguments (P17.4).
func filled(l api.Lore, args []api.LoreArg) (*program, api.Errno) {
	p, f := studied(l)
	if f.code != api.OK {
		return nil, f.code
	}
	if len(args) != len(p.params) {
		return nil, api.ErrParam
	}
	for _, a := range args {
		param, there := p.params[a.Name]
		if !there || a.Kind != param.kind || !isArgument(a.Kind, a.Word) {
			return nil, api.ErrParam
		}
		p.values[param.at] = a.Word
		delete(p.params, a.Name) // a second one of the name finds none
	}
	return p, api.OK
}

// isArgument tells whether a word is one of its kind.
func isArgument(kind api.WordKind, word uint64) bool {
	switch kind {
	case api.WordInt:
		return true
	case api.WordReal:
		return word < aboveReal && grain.Class(uint32(word)) != api.FloatNaN
	}
	return word <= 1
}
