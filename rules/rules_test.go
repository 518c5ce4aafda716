// Package rules holds the program's text against the document's map and the rules of its language.
package rules

import (
	"go/ast"
	"go/format"
	"go/parser"
	"go/token"
	"os"
	"path/filepath"
	"slices"
	"strconv"
	"strings"
	"testing"
)

// The map: which packages each layer may call, beside api.
var layers = map[string]string{
	"api": "", "wide": "", "ratio": "wide", "bound": "", "curve": "ratio wide", "line": "ratio wide",
	"lines": "curve line wide", "sum": "curve wide", "admit": "curve ratio sum wide", "packet": "", "ring": "",
	"pktq": "ring", "rank": "", "avl": "rank", "eltree": "avl rank", "vtree": "avl rank", "match": "",
	"spec": "curve", "hier": "spec", "trans": "admit hier spec", "real": "lines wide", "share": "lines wide",
	"upper": "curve lines ratio wide", "active": "hier spec",
	"core": "active eltree hier pktq real share spec trans upper vtree", "link": "packet", "wake": "bound",
	"stats": "", "top": "core link match stats wake", "script": "", "trace": "", "spans": "hier",
	"serve": "curve spans trace wide", "fair": "ratio wide", "limit": "spans upper", "busy": "",
	"audit": "packet", "state": "core pktq top", "plan": "admit curve hier spans trace wide", "replay": "top",
	"inspect": "core hier top", "sweep": "script", "desk": "inspect top trace", "rate": "curve inspect ratio",
	"ipv4": "", "flow": "ipv4", "capture": "flow", "meter": "", "conform": "curve ratio wide",
	"behind": "fair ratio wide", "tap": "capture top",
}

const library = " bytes cmp container/heap errors iter maps math math/bits slices sort strconv strings sync sync/atomic unicode unicode/utf8 "

// mostLines is how long a function may be.
const mostLines = 60

type file struct {
	pack, path string
	set        *token.FileSet
	tree       *ast.File
	text       []byte
}

func files(t *testing.T) []file {
	var out []file
	err := filepath.WalkDir("..", func(path string, d os.DirEntry, err error) error {
		if err != nil {
			return err
		}
		if d.IsDir() && d.Name() == "sharedtests" {
			return filepath.SkipDir
		}
		if d.IsDir() || !strings.HasSuffix(path, ".go") || strings.HasSuffix(path, "_test.go") {
			return nil
		}
		text, err := os.ReadFile(path)
		if err != nil {
			return err
		}
		set := token.NewFileSet()
		tree, err := parser.ParseFile(set, path, text, parser.ParseComments)
		out = append(out, file{filepath.Base(filepath.Dir(path)), path, set, tree, text})
		return err
	})
	if err != nil {
		t.Fatal(err)
	}
	return out
}

func TestImportsFollowTheMap(t *testing.T) {
	seen := 0
	for _, f := range files(t) {
		may, ok := layers[f.pack]
		if !ok {
			t.Errorf("%s: no layer", f.path)
		}
		seen++
		for _, x := range f.tree.Imports {
			path, _ := strconv.Unquote(x.Path.Value)
			if own, is := strings.CutPrefix(path, "floodgate/"); is {
				if own != "api" && !slices.Contains(strings.Fields(may), own) {
					t.Errorf("%s: calls %s", f.path, own)
				}
			} else if !strings.Contains(library, " "+path+" ") {
				t.Errorf("%s: imports %s", f.path, path)
			}
		}
	}
	if seen < len(layers) {
		t.Errorf("%d files of %d layers", seen, len(layers))
	}
}

func TestLayoutAndLength(t *testing.T) {
	for _, f := range files(t) {
		if want, err := format.Source(f.text); err != nil || string(want) != string(f.text) {
			t.Errorf("%s: not gofmt's layout: %v", f.path, err)
		}
		for _, d := range f.tree.Decls {
			x, ok := d.(*ast.FuncDecl)
			if ok && f.set.Position(x.End()).Line-f.set.Position(x.Pos()).Line > mostLines {
				t.Errorf("%s: %s is too long", f.path, x.Name.Name)
			}
		}
		for _, c := range f.tree.Comments {
			if strings.Contains(c.Text(), "go:build") || strings.HasPrefix(c.List[0].Text, "//go:") {
				t.Errorf("%s: a line for the compiler", f.path)
			}
		}
	}
}

// TestVariables: at package level stand constants, errors and tables alone.
func TestVariables(t *testing.T) {
	for _, f := range files(t) {
		for _, d := range f.tree.Decls {
			x, ok := d.(*ast.GenDecl)
			if !ok || x.Tok != token.VAR {
				continue
			}
			for _, s := range x.Specs {
				v := s.(*ast.ValueSpec)
				if len(v.Values) != len(v.Names) {
					t.Errorf("%s: %s has no value of its own", f.path, v.Names[0].Name)
				}
				for _, y := range v.Values {
					lit, ok := y.(*ast.CompositeLit)
					if !ok {
						t.Errorf("%s: %s is no table", f.path, v.Names[0].Name)
						continue
					}
					if _, ok := lit.Type.(*ast.MapType); ok {
						t.Errorf("%s: %s is a map", f.path, v.Names[0].Name)
					}
				}
			}
		}
	}
}
