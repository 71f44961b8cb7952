package rules

import (
	"go/parser"
	"go/token"
	"path/filepath"
	"slices"
	"strconv"
	"strings"
	"testing"
)

// library is the packages of Go's library that the program may use.
const library = "bytes cmp container/heap errors iter maps math math/bits slices sort strconv strings sync sync/atomic unicode unicode/utf8"

// layers is the document's map: each layer's package, and those that it calls.
const layers = `api:
limb: api
exact: api limb
flo: api exact limb
tower: api exact flo
datum: api tower
reader: api datum tower
macro: api datum
core: api datum
free: api datum
code: api datum reader
verify: api code
compile: api code datum free verify
word: api
arena: api
heap: api arena word
collect: api heap word
agenda: api
value: api datum exact flo heap tower word
table: api tower value word
fiber: api value word
prim: agenda api table tower value word
vm: api collect fiber prim value verify word
prelude:
world: api compile core macro prelude prim reader vm`

// imported is what the files of a package import, but its tests.
func imported(t *testing.T, layer string) []string {
	files, err := filepath.Glob(filepath.Join("..", layer, "*.go"))
	if err != nil || len(files) == 0 {
		t.Fatal("no package", layer)
	}
	var paths []string
	for _, name := range files {
		if strings.HasSuffix(name, "_test.go") {
			continue
		}
		file, err := parser.ParseFile(token.NewFileSet(), name, nil, parser.ImportsOnly)
		if err != nil {
			t.Fatal(err)
		}
		for _, spec := range file.Imports {
			path, err := strconv.Unquote(spec.Path.Value)
			if err != nil {
				t.Fatal(err)
			}
			paths = append(paths, path)
		}
	}
	return paths
}

func TestLayersCallThoseOfTheMap(t *testing.T) {
	rows := strings.Split(layers, "\n")
	listed := map[string]bool{}
	for _, row := range rows {
		layer, _, _ := strings.Cut(row, ":")
		listed[layer] = true
	}
	for _, row := range rows {
		layer, calls, _ := strings.Cut(row, ":")
		for _, path := range imported(t, layer) {
			name, own := strings.CutPrefix(path, "distaff/")
			if own && listed[name] && !slices.Contains(strings.Fields(calls), name) {
				t.Errorf("%s calls %s, which isn't on the map", layer, name)
			}
			if !own && !slices.Contains(strings.Fields(library), path) {
				t.Errorf("%s imports %s", layer, path)
			}
		}
	}
}
